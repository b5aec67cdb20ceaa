/- names: the reference's Of. -/
import Derived.Test.YtdcfdcjgheijcaaNmRef
import Derived.Test.YtdcfdcjgheijcaaNmEx
namespace Go.Proofs.Ytdcfdcjgheijcaa
open Go.RowKit Go.Lib

theorem of_ext {l : List (List UInt8)} {sa : Bool} {ns : List (List UInt8)} (h1 : sa = l.contains [42]) (h2 : Rises ns) (h3 : ∀ x, x ∈ ns ↔ x ∈ l ∧ okN x = true) : nOf okN l = ⟨sa, ns⟩ := by
  refine ns_eq h1.symm ?_
  refine rises_eq (srt_rises _) h2 fun x => ?_
  show x ∈ srt _ ↔ _
  rw [srt_mem, List.mem_filter, h3]
/-- What the loop holds. -/
structure Ro (w : World) (R : Nat) (l : List (List UInt8)) (k : Nat) (sa : Bool) (ns : List (List UInt8)) (a : Option Addr) (c : Nat) (wr : World) : Prop where
  box : Blk wr (R + 1) #[.bool sa, .slice a ns.length c] 29
  res : Blk wr R #[.bool false, .slice none 0 0] 29
  ts : TsAt wr (.slice a ns.length c) ns
  all : sa = (l.take k).contains [42]
  rises : Rises ns
  mem : ∀ x, x ∈ ns ↔ x ∈ l.take k ∧ okN x = true
  len : ns.length ≤ k
  bel : Below w.heap.size w wr
theorem take_mem {l : List (List UInt8)} {k : Nat} {y : List UInt8} (h : l[k]? = some y) (x : List UInt8) : x ∈ l.take (k + 1) ↔ x ∈ l.take k ∨ x = y := by
  rw [List.take_add_one, h, List.mem_append]; simp
theorem Ro.skip {w : World} {R : Nat} {l : List (List UInt8)} {k : Nat} {sa : Bool} {ns : List (List UInt8)} {a : Option Addr} {c : Nat} {wr : World} (h : Ro w R l k sa ns a c wr) {y : List UInt8} (hy : l[k]? = some y) (h1 : y ≠ [42]) (h2 : okN y = false) : Ro w R l (k + 1) sa ns a c wr :=
  { h with
    all := by rw [h.all, Bool.eq_iff_iff, List.contains_iff_mem, List.contains_iff_mem, take_mem hy]; exact ⟨.inl, fun h => h.elim id (fun e => absurd e.symm h1)⟩
    mem := fun x => by rw [h.mem, take_mem hy]; exact ⟨fun h => ⟨.inl h.1, h.2⟩, fun h => ⟨h.1.elim id (fun e => by rw [e, h2] at h; cases h.2), h.2⟩⟩
    len := Nat.le_succ_of_le h.len }
theorem Ro.star {w : World} {R : Nat} {l : List (List UInt8)} {k : Nat} {sa : Bool} {ns : List (List UInt8)} {a : Option Addr} {c : Nat} {wr : World} (h : Ro w R l k sa ns a c wr) (hy : l[k]? = some [42]) (hR : w.heap.size ≤ R) : Ro w R l (k + 1) true ns a c (wr.setCell ⟨R + 1, 0, none⟩ (.bool true)) where
  box := h.box.set 0 _
  res := (heap_setCell_other _ _ _ _ (by simp)).trans h.res
  ts := h.ts.set _ (h.box.cell 0) (fun s e => by cases e)
  all := by symm; rw [List.contains_iff_mem, take_mem hy]; exact .inr rfl
  rises := h.rises
  mem := fun x => by rw [h.mem, take_mem hy]; exact ⟨fun h => ⟨.inl h.1, h.2⟩, fun h => ⟨h.1.elim id (fun e => by rw [e] at h; exact absurd h.2 (by decide)), h.2⟩⟩
  len := Nat.le_succ_of_le h.len
  bel := h.bel.setCell (p := ⟨R + 1, 0, none⟩) (by show w.heap.size ≤ R + 1; omega) _
theorem Ro.add {w : World} {R : Nat} {l : List (List UInt8)} {k : Nat} {sa : Bool} {ns : List (List UInt8)} {a : Option Addr} {c : Nat} {wr w' : World} (h : Ro w R l k sa ns a c wr) {y : List UInt8} (hy : l[k]? = some y) (h1 : y ≠ [42]) (h2 : okN y = true) (hR : w.heap.size ≤ R)
    {a' : Option Addr} {c' : Nat} (ht : TsAt w' (.slice a' (ins ns y).length c') (ins ns y)) (hb : Below wr.heap.size wr w') : Ro w R l (k + 1) sa (ins ns y) a' c' (w'.setCell ⟨R + 1, 1, none⟩ (.slice a' (ins ns y).length c')) where
  box := (h.box.below hb h.box.lt).set 1 _
  res := (heap_setCell_other _ _ _ _ (by simp)).trans (h.res.below hb h.res.lt)
  ts := ht.set _ ((h.box.below hb h.box.lt).cell 1) (fun s e => by cases e)
  all := by rw [h.all, Bool.eq_iff_iff, List.contains_iff_mem, List.contains_iff_mem, take_mem hy]; exact ⟨.inl, fun h => h.elim id (fun e => absurd e.symm h1)⟩
  rises := ins_rises h.rises y
  mem := fun x => by
    rw [ins_mem, h.mem, take_mem hy]
    constructor
    · rintro (h | rfl)
      · exact ⟨.inl h.1, h.2⟩
      · exact ⟨.inr rfl, h2⟩
    · rintro ⟨h | h, h3⟩
      · exact .inl ⟨h, h3⟩
      · exact .inr h
  len := Nat.le_trans (ins_len ns y) (by have := h.len; omega)
  bel := (h.bel.trans (hb.mono h.bel.size)).setCell (p := ⟨R + 1, 1, none⟩) (by show w.heap.size ≤ R + 1; omega) _
theorem rname_is {s : ByteArray} {w : World} {B : Bool} (hs : s.size ≤ maxLen) (hB : nmOk s = B) : Calls Try.prog 43 #[.string s] w fun e w' => e = .returned (.bool B) ∧ w' = w := by
  subst hB
  exact (rname_any s w hs).mono (by rintro e w' ⟨rfl, rfl⟩; exact ⟨rfl, rfl⟩)

set_option maxRecDepth 100000 in
set_option maxHeartbeats 4000000 in
theorem refOf_any {a : Option Addr} {c : Nat} {l : List (List UInt8)} {w : World} {sa : Bool} {sl : List (List UInt8)} (h : TsAt w (.slice a l.length c) l) (hf : NmFit l) (hz : (l.length + 1) * 16 ≤ 140737488355328) (he : nOf okN l = ⟨sa, sl⟩) :
    Calls Try.prog 32 #[.slice a l.length c] w (SetPost sa sl w) := by
  have H := Lib.hid h
  have HF := Lib.hid hf
  have HE := Lib.hid he
  obtain ⟨R, hR⟩ : ∃ R, w.heap.size = R := ⟨_, rfl⟩
  have HR := Lib.hid hR
  have D0 : Ro w R l 0 false [] none 0 ((w.alloc (.cells #[.bool false, .slice none 0 0] 29)).alloc (.cells #[.bool false, .slice none 0 0] 29)) := by
    have b0 := (Blk.new w #[.bool false, .slice none 0 0] 29).later ((Below.refl _ _).alloc (Nat.le_refl _) (.cells #[.bool false, .slice none 0 0] 29))
    have b1 := Blk.new (w.alloc (.cells #[.bool false, .slice none 0 0] 29)) #[.bool false, .slice none 0 0] 29
    rw [World.size_alloc] at b1
    rw [hR] at b0 b1
    exact ⟨b1, b0, RowV.nil _ _ _ (Nat.zero_le _), rfl, List.Pairwise.nil, fun x => by simp, Nat.zero_le _, ((Below.refl _ _).alloc (Nat.le_refl _) _).alloc (by simp) _⟩
  obtain ⟨w2, hw2⟩ : ∃ w2, (w.alloc (.cells #[.bool false, .slice none 0 0] 29)).alloc (.cells #[.bool false, .slice none 0 0] 29) = w2 := ⟨_, rfl⟩
  rw [hw2] at D0
  have HD0 := Lib.hid D0
  have HW2 := Lib.hid hw2
  have hn63 : (l.length : Int) ≤ 9223372036854775807 := by omega
  clear h hf he hw2 D0 hR
  go_enter Try.func32, Try.ntmps32
  go_wp2_with fail
  rw [HW2.out, HR.out]
  go_loopw [4] (fun i wr => ∃ (k : Nat) (ta : Bool) (ns : List (List UInt8)) (a' : Option Addr) (c' : Nat), k ≤ l.length ∧ i = .int .i64 k ∧ Ro w R l k ta ns a' c' wr) (fun i _ => l.length - (RowKit.intOf i).toNat)
  case atStart => exact ⟨0, _, _, _, _, Nat.zero_le _, rfl, HD0.out⟩
  case round =>
    obtain ⟨k, ta, ns, a', c', hk, rfl, hr⟩ := hrel
    have c0 : wr.cell? ⟨R + 1, 0, none⟩ = some (.bool ta) := hr.box.cell 0
    have c1 : wr.cell? ⟨R + 1, 1, none⟩ = some (.slice a' ns.length c') := hr.box.cell 1
    have f0 := hr.box.frozen 0
    have f1 := hr.box.frozen 1
    have HRo := Lib.hid hr
    by_cases hlt : k < l.length
    · obtain ⟨y, hy⟩ : ∃ y, l[k]? = some y := ⟨_, List.getElem?_eq_getElem hlt⟩
      obtain ⟨a1, c1', e1, _, _, h3⟩ := H.out.out
      injection e1 with q1 _ q3
      subst q1; subst q3
      obtain ⟨b, off, rfl, hbl, hc⟩ := h3 k hlt
      clear h3
      rw [(List.getElem?_eq_some_iff.1 hy).2] at hc
      have d1 : CellAt wr b (off + k) (.string ⟨y.toArray⟩) := ⟨Nat.lt_of_lt_of_le hbl hr.bel.size, (hr.bel.cell (p := ⟨b, _, none⟩) hbl).trans hc⟩
      have d1' := d1.2
      have hyl : y.length ≤ maxLen := HF.out.1 y (List.mem_of_getElem? hy)
      have b0 : (0 : Int) ≤ (k : Int) := by omega
      have b1 : (k : Int) < (l.length : Int) := by omega
      have ty : (⟨y.toArray⟩ : ByteArray).toList = y := by rw [ByteArray.toList_eq]
      have HY := Lib.hid hy
      clear hy hc hbl hr
      by_cases hst : y = [42]
      · subst hst
        have hok : nmOk ⟨#[42]⟩ = false := by decide
        go_wp2_with fail
        refine (rname_is (s := ⟨#[42]⟩) (by decide) hok).mono ?_
        rintro e w' ⟨rfl, rfl⟩
        go_wp2_with fail
        go_roundw
        case rel => exact ⟨k + 1, true, ns, a', c', by omega, by go_num, HRo.out.star HY.out (by have := HR.out; omega)⟩
        case measure => simp [RowKit.intOf]; omega
      · have hst' : (y == [42]) = false := by simpa using hst
        cases hok : okN y with
        | false =>
          have HS := Lib.hid (And.intro hst hok)
          clear hst hok
          go_wp2_with fail
          refine (rname_is (s := ⟨y.toArray⟩) (by exact hyl) HS.out.2).mono ?_
          rintro e w' ⟨rfl, rfl⟩
          go_wp2_with fail
          go_roundw
          case rel => exact ⟨k + 1, ta, ns, a', c', by omega, by go_num, HRo.out.skip HY.out HS.out.1 HS.out.2⟩
          case measure => simp [RowKit.intOf]; omega
        | true =>
          have HS := Lib.hid (And.intro hst hok)
          clear hst hok
          go_wp2_with fail
          refine (rname_is (s := ⟨y.toArray⟩) (by exact hyl) HS.out.2).mono ?_
          rintro e wq ⟨rfl, rfl⟩
          go_wp2_with fail
          have L0 : Base wq wq := Below.refl _ _
          obtain ⟨w1, hw2, hb3⟩ := drew_new wq
          have q4 := d1.later hb3
          have q5 := HRo.out.box.later hb3
          have q6 := HRo.out.ts.later hb3
          have q7 := L0.later hb3
          refine wp_region_held_drew (S := (fun w' => w'.cell? ⟨b, off + k, none⟩ = some (.string ⟨y.toArray⟩))) (by kernel_rfl) (by rw [hw2]; exact q4.2) (fun hHeld => ?_)
          rw [hw2] at hHeld ⊢
          have r1d := q5.cell 1
          simp only [List.getElem?_toArray, List.getElem?_cons_zero, List.getElem?_cons_succ] at r1d
          refine wpAnyH_take (i := 0) (oi := { dst := some 25, op := Op.fieldAddr 29 (Operand.tmp 3) 1, type := 0, pos := "ref.go:50", after := #[], guard := none }) (v := ?v1) rfl (by kernel_rfl) (by kernel_rfl) (by kernel_rfl) (fun _ _ _ h => h) (Or.inl ⟨by rfl, ?hy1⟩) (by assumption) ?rest1
          case hy1 => (intro w1 hSw; (try dsimp only at hSw); obtain h0 := hSw; go_simp; try with_reducible rfl)
          try simp only [Act.put, List.setIfInBounds_toArray, List.set_cons_zero, List.set_cons_succ]
          refine wpAnyH_take (i := 2) (oi := { dst := some 27, op := Op.move (Operand.tmp 0), type := 24, pos := "ref.go:50", after := #[], guard := none }) (v := ?v2) rfl (by kernel_rfl) (by kernel_rfl) (by kernel_rfl) (fun _ _ _ h => h) (Or.inl ⟨by rfl, ?hy2⟩) (by assumption) ?rest2
          case hy2 => (intro w1 hSw; (try dsimp only at hSw); obtain h0 := hSw; go_simp; try with_reducible rfl)
          try simp only [Act.put, List.setIfInBounds_toArray, List.set_cons_zero, List.set_cons_succ]
          refine wpAnyH_take (i := 3) (oi := { dst := some 28, op := Op.move (Operand.tmp 4), type := 3, pos := "ref.go:50", after := #[], guard := none }) (v := ?v3) rfl (by kernel_rfl) (by kernel_rfl) (by kernel_rfl) (fun _ _ _ h => h) (Or.inl ⟨by rfl, ?hy3⟩) (by assumption) ?rest3
          case hy3 => (intro w1 hSw; (try dsimp only at hSw); obtain h0 := hSw; go_simp; try with_reducible rfl)
          try simp only [Act.put, List.setIfInBounds_toArray, List.set_cons_zero, List.set_cons_succ]
          refine wpAnyH_take (i := 4) (oi := { dst := some 29, op := Op.indexAddr 24 (Operand.tmp 27) (Operand.tmp 28), type := 0, pos := "ref.go:50", after := #[{ on := 2, ground := Ground.data }, { on := 3, ground := Ground.data }], guard := none }) (v := ?v4) rfl (by kernel_rfl) (by kernel_rfl) (by kernel_rfl) (fun _ _ _ h => h) (Or.inl ⟨by rfl, ?hy4⟩) (by assumption) ?rest4
          case hy4 => (intro w1 hSw; (try dsimp only at hSw); obtain h0 := hSw; go_simp; try with_reducible rfl)
          try simp only [Act.put, List.setIfInBounds_toArray, List.set_cons_zero, List.set_cons_succ]
          refine wpAnyH_take (i := 5) (oi := { dst := some 30, op := Op.load 9 (Operand.tmp 29), type := 9, pos := "ref.go:50", after := #[{ on := 4, ground := Ground.data }], guard := none }) (v := ?v5) rfl (by kernel_rfl) (by kernel_rfl) (by kernel_rfl) (fun _ _ _ h => h) (Or.inl ⟨by rfl, ?hy5⟩) (by assumption) ?rest5
          case hy5 => (intro w1 hSw; (try dsimp only at hSw); obtain h0 := hSw; go_simp; try with_reducible rfl)
          try simp only [Act.put, List.setIfInBounds_toArray, List.set_cons_zero, List.set_cons_succ]
          refine wpAnyH_ready (rs := [1]) (by kernel_rfl) (by simp) ?_
          refine AllReadyH.cons (o := { dst := some 26, op := Op.load 24 (Operand.tmp 25), type := 24, pos := "ref.go:50", after := #[{ on := 0, ground := Ground.data }], guard := none }) rfl (fun K hK => ?_) AllReadyH.nil
          go_simp
          refine hK.out _ _ (q4.2) (fun hHeld => ?_)
          clear hK K
          try simp only [Act.put, List.setIfInBounds_toArray, List.set_cons_zero, List.set_cons_succ]
          refine wpAnyH_ready (rs := [6]) (by kernel_rfl) (by simp) ?_
          refine AllReadyH.cons (o := { dst := some 31, op := Op.call { callee := Callee.value (Operand.func 29), args := #[Operand.tmp 26, Operand.tmp 30], argTypes := #[24, 9] }, type := 24, pos := "ref.go:50", after := #[{ on := 1, ground := Ground.data }, { on := 5, ground := Ground.data }], guard := none }) rfl (fun K hK => ?_) AllReadyH.nil
          go_simp
          refine (with_any (l := ns) q6 (by have := HRo.out.len; omega)).mono ?_
          rintro e w8 ⟨ax, cx, rfl, tx, hb9⟩
          have q10 := q4.later hb9
          have q11 := q5.later hb9
          have q12 := q6.later hb9
          have q13 := q7.later hb9
          have r1 := q11.cell 1
          have g1 := q11.frozen 1
          simp only [List.getElem?_toArray, List.getElem?_cons_zero, List.getElem?_cons_succ] at r1
          refine hK.out _ _ (q10.2) (fun hHeld => ?_)
          clear hK K
          try simp only [Act.put, List.setIfInBounds_toArray, List.set_cons_zero, List.set_cons_succ]
          refine wpAnyH_take (i := 7) (oi := { dst := some 32, op := Op.fieldAddr 29 (Operand.tmp 3) 1, type := 0, pos := "ref.go:50", after := #[{ on := 0, ground := Ground.phase }, { on := 1, ground := Ground.phase }, { on := 2, ground := Ground.phase }, { on := 3, ground := Ground.phase }, { on := 4, ground := Ground.phase }, { on := 5, ground := Ground.phase }, { on := 6, ground := Ground.phase }], guard := none }) (v := ?v6) rfl (by kernel_rfl) (by kernel_rfl) (by kernel_rfl) (fun _ _ _ h => h) (Or.inl ⟨by rfl, ?hy6⟩) (by assumption) ?rest6
          case hy6 => (intro w1 hSw; (try dsimp only at hSw); obtain h0 := hSw; go_simp; try with_reducible rfl)
          try simp only [Act.put, List.setIfInBounds_toArray, List.set_cons_zero, List.set_cons_succ]
          refine wpAnyH_ready (rs := [8]) (by kernel_rfl) (by simp) ?_
          refine AllReadyH.cons (o := { dst := none, op := Op.store 24 (Operand.tmp 32) (Operand.tmp 31), type := 0, pos := "ref.go:50", after := #[{ on := 7, ground := Ground.data }, { on := 6, ground := Ground.data }, { on := 6, ground := Ground.chain }, { on := 0, ground := Ground.phase }, { on := 1, ground := Ground.phase }, { on := 2, ground := Ground.phase }, { on := 3, ground := Ground.phase }, { on := 4, ground := Ground.phase }, { on := 5, ground := Ground.phase }, { on := 6, ground := Ground.phase }], guard := none }) rfl (fun K hK => ?_) AllReadyH.nil
          go_simp
          refine hK.out _ _ ((World.cell?_setCell_other _ _ _ _ (by intro e; have h1 := q10.2; rw [← e, r1] at h1; cases h1)).trans q10.2) (fun hHeld => ?_)
          clear hK K
          refine wpAnyH_done (by kernel_rfl) ?_ _
          go_wp2_with fail
          go_roundw
          case rel => exact ⟨k + 1, ta, _, _, _, by omega, by go_num, HRo.out.add HY.out HS.out.1 HS.out.2 (by have := HR.out; omega) tx q13⟩
          case measure => simp [RowKit.intOf]; omega
    · have b1 : ¬ (k : Int) < (l.length : Int) := by omega
      have hE : l.take k = l := List.take_of_length_le (by omega)
      have hfin : nOf okN l = ⟨ta, ns⟩ := of_ext (by rw [hr.all, hE]) hr.rises (fun x => by rw [hr.mem, hE])
      rw [HE.out] at hfin
      obtain ⟨rfl, rfl⟩ : sa = ta ∧ sl = ns := by injection hfin with q1 q2; exact ⟨q1, q2⟩
      have r0 : wr.cell? ⟨R, 0, none⟩ = some (.bool false) := hr.res.cell 0
      have r1 : wr.cell? ⟨R, 1, none⟩ = some (.slice none 0 0) := hr.res.cell 1
      have g0 := hr.res.frozen 0
      have g1 := hr.res.frozen 1
      obtain ⟨t0, t1⟩ := two_cells (.bool sa) (.slice a' sl.length c') r0 r1
      have ht := hr.ts.set2 (.bool sa) (.slice a' sl.length c') r0 r1
      have hb := below_set2 hr.bel (R := R) (by have := HR.out; omega) (.bool sa) (.slice a' sl.length c')
      have HX := Lib.hid (And.intro t0 (And.intro t1 (And.intro ht hb)))
      clear t0 t1 ht hb hr hfin hE
      go_wp2_with fail
      obtain ⟨t0, t1, ht, hb⟩ := HX.out
      refine bodyPost_ret (v := .agg #[.bool sa, .slice a' sl.length c']) ?_ rfl ⟨_, _, rfl, ht, hb⟩
      simp [results, Try.results32, go_sem, t0, t1]
end Go.Proofs.Ytdcfdcjgheijcaa
