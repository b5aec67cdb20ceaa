/- acks: tellRefused. -/
import Derived.Test.YtogkdekjcbljnaaDoorAkTellP
namespace Go.Proofs.YtogkdekjcbljnaaDoor
open Go.RowKit

theorem KeptA.later {b : AkB} {B : Nat} {w w1 w2 : World} (h : KeptA b B w w1) (hb : Below w1.heap.size w1 w2) : KeptA b B w w2 := h.trans (.of hb)
theorem KeptA.beyond {b : AkB} {B : Nat} {w w1 w2 : World} {row : Option Nat} (h : KeptA b B w w1) (hg : w1.grownBy w2 row) (hr : ∀ g, row = some g → w.heap.size ≤ g) : KeptA b B w w2 :=
  ⟨hg.os.trans h.os, hg.tape.trans h.tape, hg.output.trans h.output, Nat.le_trans h.size hg.size, fun k hk hn => (hg.block k (Nat.lt_of_lt_of_le hk h.size) (fun e => by have := hr k e.symm; omega)).trans (h.block k hk hn)⟩
/-- A row of another type is turned: an Acks stays. -/
theorem AkIn.aside {base B sz n : Nat} {b : AkB} {A : Ak} {CT : Tk → Option Value} {CR CN : Ky → Option Value} {w w' : World} {T : TypeId} {v : Value} {xs : List Value} (h : AkIn base b A CT CR CN w) (ho : w.ownsRow B T sz v n xs) (h1 : T ≠ 57) (h2 : T ≠ 82) (hg : w.grownBy w' v.ownBlock) : AkIn base b A CT CR CN w' := by
  have hcell : ∀ g, v.ownBlock = some g → ∃ c fz, w.heap[g]? = some (.cells c T fz) := fun g hg => (own_heap ho hg).2.2
  have hkm : ∀ {κ : Type} {enc : κ → Value} {ok : κ → Prop} {m : Nat} {C : κ → Option Value}, KMap enc ok w m C → KMap enc ok w' m C := fun hm => hm.kept hg (fun e => by
    obtain ⟨c, fz, hc⟩ := hcell _ e.symm
    exact kmap_ne hm hc rfl)
  refine ⟨h.blk.kept hg (fun e => ?_), h.bm, h.bt, h.br, h.bo, h.n1, h.n2, h.n3, hkm h.tm, h.tv, hkm h.rm, fun k' => ?_, h.rd, hkm h.nm, h.nv⟩
  · obtain ⟨c, fz, hc⟩ := hcell _ e.symm
    have hb := h.blk
    unfold Blk at hb
    rw [hb] at hc
    injection hc with hc; injection hc with _ e2 _
    exact h1 e2.symm
  · have hr := h.rv k'
    cases hC' : CR k' with
    | none => rw [hC'] at hr; exact hr
    | some u =>
      rw [hC'] at hr
      refine own_other (v := u) hr hg fun g hgu e2 => ?_
      obtain ⟨c, fz, hc⟩ := hcell g e2
      obtain ⟨_, _, c', fz', hc'⟩ := own_heap hr hgu
      rw [hc] at hc'
      injection hc' with hc'; injection hc' with _ e3 _
      exact h2 e3
structure OutAt (B : Nat) (v : Value) (l : List St) (w : World) : Prop where
  own : w.ownsRow B 35 5 v l.length (stCells l)
theorem OutAt.later {B : Nat} {v : Value} {l : List St} {w w' : World} (h : OutAt B v l w) (hb : Below w.heap.size w w') : OutAt B v l w' := ⟨own_below h.own hb⟩
theorem Blk.aside {w w' : World} {p B sz n : Nat} {c : Array Value} {t T : TypeId} {v : Value} {xs : List Value} (h : Blk w p c t) (ho : w.ownsRow B T sz v n xs) (ht : T ≠ t) (hg : w.grownBy w' v.ownBlock) : Blk w' p c t := by
  refine h.kept hg fun e => ?_
  obtain ⟨_, _, c', fz', hc'⟩ := own_heap ho e.symm
  have hb := h
  unfold Blk at hb
  rw [hb] at hc'
  injection hc' with hc'; injection hc' with _ e3 _
  exact ht e3.symm
theorem row_frozen {w : World} {base sz n g c : Nat} {T : TypeId} {xs : List Value} (h : w.ownsRow base T sz (.slice (some ⟨g, 0, none⟩) n c) n xs) (j : Nat) : w.frozen? ⟨g, j, none⟩ = false := by
  rcases h.2 with ⟨e, _⟩ | ⟨g', cap, cur, e, _, hg, _⟩
  · cases e
  · cases e
    simp [World.frozen?, hg]
def StsPost (b : AkB) (base : Nat) (A' : Ak) (l : List St) (w : World) (e : Ending) (w' : World) : Prop := ∃ v, e = .returned v ∧ w'.ownsRow w.heap.size 35 5 v l.length (stCells l) ∧ AkIs base b A' w' ∧ KeptA b base w w'
set_option maxRecDepth 100000 in
set_option maxHeartbeats 4000000 in
theorem tell_any {base : Nat} {b : AkB} {A : Ak} {w : World} {k : Ky} (h : AkIs base b A w) (hk : kyK k) (hkx : k.2.size ≤ 140737488355328) :
    Calls Tryd.prog 19 #[.pointer (some ⟨b.m, 0, none⟩), kyE k] w (StsPost b base (A.tell k) (bdOut k (A.R k)) w) := by
  obtain ⟨i0, hi, hz0, hz1, hz2⟩ := info_parts Tryd.infoSt
  obtain ⟨hok, CT, CR, CN, hin⟩ := h
  obtain ⟨t, x⟩ := k
  obtain ⟨w1, hw1, hb1, q1⟩ := ak_new w #[.int .i64 t, .string x] 27
  have hd1 : Below w1.heap.size w1 w1.drew := (Below.refl _ _).drew
  have hin1 := (hin.later hb1).later hd1
  have hlk := hin1.lookR (k := (t, x)) hk
  obtain ⟨a, c, hv, hrow⟩ := hin1.rowR (t, x)
  obtain ⟨l, hl⟩ : ∃ l, A.R (t, x) = l := ⟨_, rfl⟩
  obtain ⟨n, hn⟩ : ∃ n, l.length = n := ⟨_, rfl⟩
  rw [hl, hn] at hv hrow
  rw [hv] at hlk
  have c0 : w1.cell? ⟨b.m, 1, none⟩ = some (.map (some b.mr)) := (hin.later hb1).blk.cell 1
  have y0 : w1.cell? ⟨w.heap.size, 0, none⟩ = some (.int .i64 t) := q1.cell 0
  have y1 : w1.cell? ⟨w.heap.size, 1, none⟩ = some (.string x) := q1.cell 1
  have hn8 : n ≤ 8 := by rw [← hn, ← hl]; exact (hok.r _).1
  have HW1 := Lib.hid hw1
  have HIN := Lib.hid (show AkIn base b { A with R := upd A.R (t, x) (tellP l 0) } CT CR CN w1.drew by rw [tellP_zero, ← hl, upd_self]; exact hin1)
  have HK := Lib.hid (KeptA.of (b := b) (B := base) (hb1.trans (hd1.mono hb1.size)))
  have HQ := Lib.hid (q1.later hd1)
  have HOK := Lib.hid hok
  have HL := Lib.hid (And.intro hl hn)
  have HV := Lib.hid hv
  have HKY := Lib.hid (show x.size ≤ 140737488355328 from hkx)
  have HW1S := Lib.hid hb1.size
  clear hw1 hb1 q1 hin1 hin hok hl hn hv hrow hd1
  go_enter Tryd.func19, Tryd.ntmps19
  go_wp2_with (rw [HW1.out])
  go_region
  all_goals
    go_wp2_with fail
    obtain ⟨w2, hw2⟩ : ∃ w2, w1.drew = w2 := ⟨_, rfl⟩
    have HIN := Lib.hid (show AkIn base b { A with R := upd A.R (t, x) (tellP l 0) } CT CR CN w2 from hw2 ▸ HIN.out)
    have HK := Lib.hid (show KeptA b base w w2 from hw2 ▸ HK.out)
    have HQ := Lib.hid (show Blk w2 w.heap.size #[.int .i64 t, .string x] 27 from hw2 ▸ HQ.out)
    rw [hw2]
    clear c0 y0 y1 hlk hw2
    go_loopw [5, 7, 8, 17] (fun vo _ _ vi wr => ∃ i : Nat, vi = .int .i64 (i : Int) ∧ i ≤ n ∧ AkIn base b { A with R := upd A.R (t, x) (tellP l i) } CT CR CN wr ∧ KeptA b base w wr ∧ Blk wr w.heap.size #[.int .i64 t, .string x] 27 ∧ wr.ownsRow (w.heap.size + 1) 35 5 vo (bdOut (t, x) (l.take i)).length (stCells (bdOut (t, x) (l.take i))) ∧ w.heap.size + 1 ≤ wr.heap.size) (fun _ _ _ vi _ => n - (intOf vi).toNat)
    case atStart => exact ⟨0, rfl, Nat.zero_le _, HIN.out, HK.out, HQ.out, World.ownsRow_nil _ _ _ _, HQ.out.lt⟩
    case round =>
      clear HIN HK HQ HW1
      obtain ⟨i, rfl, hin', hin, hkp, hq, hout, hsz⟩ := hrel
      obtain ⟨a', c', hv', hrow⟩ := hin.rowR (t, x)
      rw [show ({ A with R := upd A.R (t, x) (tellP l i) } : Ak).R (t, x) = tellP l i from upd_same _ _ _, tellP_len (by rw [HL.out.2]; exact hin'), HL.out.2] at hv' hrow
      have hv'' := hv'
      rw [HV.out] at hv'
      cases hv'
      by_cases hlt : i < n
      · obtain ⟨g, cap, hva, _, hgl⟩ := row_some hrow (by omega)
        cases hva
        have b1 : (i : Int) < (n : Int) := by omega
        have b0 : (0 : Int) ≤ (i : Int) := by omega
        have b2 : IntKind.i64.wrap ((i : Int) + 1) = (i : Int) + 1 := by rw [IntKind.wrap_i64]; omega
        obtain ⟨bd, hbd⟩ : ∃ bd, l[i]? = some bd := ⟨_, List.getElem?_eq_getElem (by rw [HL.out.2]; exact hlt)⟩
        have hat := bdsAt_row (rs := tellP l i) (by rw [tellP_len (by rw [HL.out.2]; exact hin'), HL.out.2]; exact hrow) i bd (tellP_get hbd)
        obtain ⟨g', off, hga, _, p0, p1, p2⟩ := hat
        cases hga
        rw [Nat.zero_add] at p0 p1 p2
        obtain ⟨q, f, s⟩ := bd
        simp only at p0 p1 p2
        have HBD := Lib.hid hbd
        obtain ⟨w3, hw3, hb3, qb⟩ := ak_new wr #[.int .u64 (q : Int), .bool f, .string s] 82
        have HW3 := Lib.hid hw3
        have HIN3 := Lib.hid (hin.later hb3)
        have HK3 := Lib.hid (hkp.trans (.of hb3))
        have HQ3 := Lib.hid (hq.later hb3)
        have HO3 := Lib.hid (own_below hout hb3)
        have HR3 := Lib.hid (own_below hrow hb3)
        have HB3 := Lib.hid qb
        have HS3 := Lib.hid (And.intro hsz hb3.size)
        have HLT := Lib.hid hlt
        have r1 : w3.cell? ⟨wr.heap.size, 1, none⟩ = some (.bool f) := qb.cell 1
        clear hw3 hb3 qb hin hkp hq hout hrow hsz
        cases f with
        | true =>
          have HT := Lib.hid (And.intro (tellP_yes hbd rfl) (outP_yes (k := (t, x)) hbd rfl))
          clear hbd
          go_wp2_with (rw [HW3.out])
          go_roundw
          case rel => exact ⟨i + 1, by go_num, by have := HLT.out; omega, by rw [HT.out.1]; exact HIN3.out, HK3.out, HQ3.out, by rw [HT.out.2]; exact HO3.out, by have := HS3.out; omega⟩
          case measure => have := HLT.out; simp [intOf]; omega
        | false =>
          have HT := Lib.hid (And.intro (tellP_no hbd rfl) (outP_no (k := (t, x)) hbd rfl))
          clear hbd
          go_wp2_with (rw [HW3.out])
          /- region 7 -/
          have O3 : OutAt (w.heap.size + 1) u5 (bdOut (t, x) (l.take i)) w3 := ⟨HO3.out⟩
          have HLN := Lib.hid (show (bdOut (t, x) (l.take i)).length ≤ 8 from Nat.le_trans (bdOut_len _ _) (by rw [List.length_take]; have := HLT.out; omega))
          obtain ⟨w1001, hw1002, hb1003⟩ := drew_new w3
          have q1004 := HQ3.out.later hb1003
          have q1005 := HB3.out.later hb1003
          have q1006 := O3.later hb1003
          have q1007 := HIN3.out.later hb1003
          have q1008 := HK3.out.later hb1003
          refine wp_region_held_drew (S := (fun w' => w'.cell? ⟨w.heap.size, 0, none⟩ = some (.int .i64 t) ∧ w'.cell? ⟨w.heap.size, 1, none⟩ = some (.string x) ∧ w'.cell? ⟨wr.heap.size, 0, none⟩ = some (.int .u64 (q : Int)) ∧ w'.cell? ⟨wr.heap.size, 2, none⟩ = some (.string s) ∧ True)) (by kernel_rfl) (by rw [hw1002]; exact ⟨q1004.cell 0, q1004.cell 1, q1005.cell 0, q1005.cell 2, trivial⟩) (fun hHeld => ?_)
          rw [hw1002] at hHeld ⊢
          refine wpAnyH_take (i := 0) (oi := { dst := some 25, op := Op.move (Operand.tmp 5), type := 39, pos := "refused.go:40", after := #[], guard := none }) (v := ?v101) rfl (by kernel_rfl) (by kernel_rfl) (by kernel_rfl) (fun _ _ _ h => h) (Or.inl ⟨by rfl, ?hy101⟩) (by assumption) ?rest101
          case hy101 => (intro w1 hSw; (try dsimp only at hSw); obtain ⟨h0, h1, h2, h3, -⟩ := hSw; go_simp; try with_reducible rfl)
          try simp only [Act.put, List.setIfInBounds_toArray, List.set_cons_zero, List.set_cons_succ]
          refine wpAnyH_take (i := 1) (oi := { dst := some 26, op := Op.load 27 (Operand.tmp 3), type := 27, pos := "refused.go:40", after := #[], guard := none }) (v := ?v102) rfl (by kernel_rfl) (by kernel_rfl) (by kernel_rfl) (fun _ _ _ h => h) (Or.inl ⟨by rfl, ?hy102⟩) (by assumption) ?rest102
          case hy102 => (intro w1 hSw; (try dsimp only at hSw); obtain ⟨h0, h1, h2, h3, -⟩ := hSw; go_simp; try with_reducible rfl)
          try simp only [Act.put, List.setIfInBounds_toArray, List.set_cons_zero, List.set_cons_succ]
          refine wpAnyH_take (i := 3) (oi := { dst := some 28, op := Op.fieldAddr 82 (Operand.tmp 8) 0, type := 0, pos := "refused.go:40", after := #[], guard := none }) (v := ?v103) rfl (by kernel_rfl) (by kernel_rfl) (by kernel_rfl) (fun _ _ _ h => h) (Or.inl ⟨by rfl, ?hy103⟩) (by assumption) ?rest103
          case hy103 => (intro w1 hSw; (try dsimp only at hSw); obtain ⟨h0, h1, h2, h3, -⟩ := hSw; go_simp; try with_reducible rfl)
          try simp only [Act.put, List.setIfInBounds_toArray, List.set_cons_zero, List.set_cons_succ]
          refine wpAnyH_take (i := 4) (oi := { dst := some 29, op := Op.load 29 (Operand.tmp 28), type := 29, pos := "refused.go:40", after := #[{ on := 3, ground := Ground.data }], guard := none }) (v := ?v104) rfl (by kernel_rfl) (by kernel_rfl) (by kernel_rfl) (fun _ _ _ h => h) (Or.inl ⟨by rfl, ?hy104⟩) (by assumption) ?rest104
          case hy104 => (intro w1 hSw; (try dsimp only at hSw); obtain ⟨h0, h1, h2, h3, -⟩ := hSw; go_simp; try with_reducible rfl)
          try simp only [Act.put, List.setIfInBounds_toArray, List.set_cons_zero, List.set_cons_succ]
          refine wpAnyH_take (i := 5) (oi := { dst := some 30, op := Op.fieldAddr 82 (Operand.tmp 8) 2, type := 0, pos := "refused.go:40", after := #[], guard := none }) (v := ?v105) rfl (by kernel_rfl) (by kernel_rfl) (by kernel_rfl) (fun _ _ _ h => h) (Or.inl ⟨by rfl, ?hy105⟩) (by assumption) ?rest105
          case hy105 => (intro w1 hSw; (try dsimp only at hSw); obtain ⟨h0, h1, h2, h3, -⟩ := hSw; go_simp; try with_reducible rfl)
          try simp only [Act.put, List.setIfInBounds_toArray, List.set_cons_zero, List.set_cons_succ]
          refine wpAnyH_take (i := 6) (oi := { dst := some 31, op := Op.load 9 (Operand.tmp 30), type := 9, pos := "refused.go:40", after := #[{ on := 5, ground := Ground.data }], guard := none }) (v := ?v106) rfl (by kernel_rfl) (by kernel_rfl) (by kernel_rfl) (fun _ _ _ h => h) (Or.inl ⟨by rfl, ?hy106⟩) (by assumption) ?rest106
          case hy106 => (intro w1 hSw; (try dsimp only at hSw); obtain ⟨h0, h1, h2, h3, -⟩ := hSw; go_simp; try with_reducible rfl)
          try simp only [Act.put, List.setIfInBounds_toArray, List.set_cons_zero, List.set_cons_succ]
          refine wpAnyH_ready (rs := [2]) (by kernel_rfl) (by simp) ?_
          refine AllReadyH.cons (o := { dst := some 27, op := Op.call { callee := Callee.value (Operand.func 16), args := #[Operand.tmp 26], argTypes := #[27] }, type := 27, pos := "refused.go:40", after := #[{ on := 1, ground := Ground.data }], guard := none }) rfl (fun K hK => ?_) AllReadyH.nil
          go_simp
          refine (ownKey_any (t, x) _ HKY.out).mono ?_
          rintro e w1009 ⟨rfl, hb1010⟩
          have q1011 := q1004.later hb1010
          have q1012 := q1005.later hb1010
          have q1013 := q1006.later hb1010
          have q1014 := q1007.later hb1010
          have q1015 := q1008.later hb1010
          refine hK.out _ _ (⟨q1011.cell 0, q1011.cell 1, q1012.cell 0, q1012.cell 2, trivial⟩) (fun hHeld => ?_)
          clear hK K
          try simp only [Act.put, List.setIfInBounds_toArray, List.set_cons_zero, List.set_cons_succ]
          refine wpAnyH_take (i := 7) (oi := { dst := some 32, op := Op.build 35 #[(0, Operand.tmp 27), (1, Operand.tmp 29), (3, Operand.tmp 31)], type := 35, pos := "refused.go:40", after := #[{ on := 2, ground := Ground.data }, { on := 4, ground := Ground.data }, { on := 6, ground := Ground.data }], guard := none }) (v := ?v107) rfl (by kernel_rfl) (by kernel_rfl) (by kernel_rfl) (fun _ _ _ h => h) (Or.inl ⟨by rfl, ?hy107⟩) (by assumption) ?rest107
          case hy107 => (intro w1 hSw; (try dsimp only at hSw); obtain ⟨h0, h1, h2, h3, -⟩ := hSw; go_simp; try with_reducible rfl)
          try simp only [Act.put, List.setIfInBounds_toArray, List.set_cons_zero, List.set_cons_succ]
          refine wpAnyH_ready (rs := [8]) (by kernel_rfl) (by simp) ?_
          refine AllReadyH.cons (o := { dst := some 33, op := Op.buildSlice 39 1 #[(0, Operand.tmp 32)], type := 39, pos := "refused.go:40", after := #[{ on := 7, ground := Ground.data }], guard := none }) rfl (fun K hK => ?_) AllReadyH.nil
          go_simp
          obtain ⟨w1016, hw1017, hb1018, p1019⟩ := alloc_new w1009 #[.int .i64 t, .string x, .int .u64 (q : Int), .bool false, .string s] 35
          have q1020 := q1011.later hb1018
          have q1021 := q1012.later hb1018
          have q1022 := q1013.later hb1018
          have q1023 := q1014.later hb1018
          have q1024 := q1015.later hb1018
          rw [hw1017]
          refine hK.out _ _ (⟨q1020.cell 0, q1020.cell 1, q1021.cell 0, q1021.cell 2, trivial⟩) (fun hHeld => ?_)
          clear hK K
          try simp only [Act.put, List.setIfInBounds_toArray, List.set_cons_zero, List.set_cons_succ]
          refine wpAnyH_ready (rs := [9]) (by kernel_rfl) (by simp) ?_
          refine AllReadyH.cons (o := { dst := some 34, op := Op.call { callee := Callee.builtin Builtin.append, args := #[Operand.tmp 25, Operand.tmp 33], argTypes := #[39, 39] }, type := 39, pos := "refused.go:40", after := #[{ on := 0, ground := Ground.data }, { on := 8, ground := Ground.data }, { on := 2, ground := Ground.chain }], guard := none }) rfl (fun K hK => ?_) AllReadyH.nil
          skip
          refine step_append_lies _ (by rfl) _ _ _ (by rfl) (w.heap.size + 1) 35 i0 _ 5 56 Tryd.underlying39 hi hz0 hz1 hz2 rfl (by omega) _ _ _ (by rfl) q1022.own ⟨w1009.heap.size, 0, none⟩ 1 1 (stCells [⟨t, x, q, false, s⟩]) (by rfl) (by rfl) (World.news_of_block (cs := #[.int .i64 t, .string x, .int .u64 (q : Int), .bool false, .string s]) (t := 35) (fr := (0, 0)) p1019) st_one (by omega) (by have := HLN.out; unfold maxLen; omega) (by have := HLN.out; omega) (by have := q1020.lt; omega) _ rfl ?_
          intro gg cc w1025 hown7 hgrow7 _ _
          have I7 := q1023.aside q1022.own (by decide) (by decide) hgrow7
          have K7 := q1024.beyond hgrow7 (fun g' hg' => by have := (own_heap q1022.own hg').1; omega)
          have Q7 := Blk.aside q1020 q1022.own (by decide) hgrow7
          have X7 := Blk.aside q1021 q1022.own (by decide) hgrow7
          have S7 : w.heap.size + 1 ≤ w1025.heap.size := Q7.lt
          rw [← stCells_append] at hown7
          refine hK.out _ _ (⟨Q7.cell 0, Q7.cell 1, X7.cell 0, X7.cell 2, trivial⟩) (fun hHeld => ?_)
          clear hK K
          try simp only [Act.put, List.setIfInBounds_toArray, List.set_cons_zero, List.set_cons_succ]
          refine wpAnyH_take (i := 10) (oi := { dst := some 5, op := Op.assign (Operand.tmp 34), type := 39, pos := "refused.go:40", after := #[{ on := 9, ground := Ground.data }, { on := 9, ground := Ground.chain }, { on := 0, ground := Ground.phase }, { on := 1, ground := Ground.phase }, { on := 2, ground := Ground.phase }, { on := 3, ground := Ground.phase }, { on := 4, ground := Ground.phase }, { on := 5, ground := Ground.phase }, { on := 6, ground := Ground.phase }, { on := 7, ground := Ground.phase }, { on := 8, ground := Ground.phase }, { on := 9, ground := Ground.phase }], guard := none }) (v := ?v108) rfl (by kernel_rfl) (by kernel_rfl) (by kernel_rfl) (fun _ _ _ h => h) (Or.inl ⟨by rfl, ?hy108⟩) (by assumption) ?rest108
          case hy108 => (intro w1 hSw; (try dsimp only at hSw); obtain ⟨h0, h1, h2, h3, -⟩ := hSw; go_simp; try with_reducible rfl)
          try simp only [Act.put, List.setIfInBounds_toArray, List.set_cons_zero, List.set_cons_succ]
          refine wpAnyH_done (by kernel_rfl) ?_ _
          obtain ⟨a8, c8, hv8, hrow8⟩ := I7.rowR (t, x)
          rw [show ({ A with R := upd A.R (t, x) (tellP l i) } : Ak).R (t, x) = tellP l i from upd_same _ _ _, tellP_len (by rw [HL.out.2]; exact Nat.le_of_lt HLT.out), HL.out.2] at hv8 hrow8
          have hv9 := hv8
          rw [HV.out] at hv8
          cases hv8
          have hset := row_set (i := i) (r := ⟨q, true, ⟨#[]⟩⟩) hrow8 (by rw [tellP_len (by rw [HL.out.2]; exact Nat.le_of_lt HLT.out), HL.out.2]; exact HLT.out)
          have hturn := I7.rowTurn (l := (tellP l i).set i ⟨q, true, ⟨#[]⟩⟩) hv9 (by simp) (w' := rowSet w1025 g i ⟨q, true, ⟨#[]⟩⟩) hset.2 (by rw [List.length_set, tellP_len (by rw [HL.out.2]; exact Nat.le_of_lt HLT.out), HL.out.2]; exact hset.1)
          have hlen8 : ((bdOut (t, x) (l.take i)) ++ [(⟨t, x, q, false, s⟩ : St)]).length = (bdOut (t, x) (l.take i)).length + 1 := by simp
          have hout8 := own_other hown7 hset.2 (fun g' hg' e => rows_apart hrow8 hown7 (by decide) g' hg' e)
          have HE := Lib.hid (show AkIn base b { A with R := upd A.R (t, x) (tellP l (i + 1)) } CT CR CN (rowSet w1025 g i ⟨q, true, ⟨#[]⟩⟩) ∧ KeptA b base w (rowSet w1025 g i ⟨q, true, ⟨#[]⟩⟩) ∧ Blk (rowSet w1025 g i ⟨q, true, ⟨#[]⟩⟩) w.heap.size #[.int .i64 t, .string x] 27 ∧ (rowSet w1025 g i ⟨q, true, ⟨#[]⟩⟩).ownsRow (w.heap.size + 1) 35 5 _ (bdOut (t, x) (l.take (i + 1))).length (stCells (bdOut (t, x) (l.take (i + 1)))) ∧ w.heap.size + 1 ≤ (rowSet w1025 g i ⟨q, true, ⟨#[]⟩⟩).heap.size from
            ⟨by have := hturn.1; rw [show ({ A with R := upd A.R (t, x) (tellP l i) } : Ak).R = upd A.R (t, x) (tellP l i) from rfl, upd_upd] at this; rw [HT.out.1]; exact this, K7.trans hturn.2, Blk.aside Q7 hrow8 (by decide) hset.2, by rw [HT.out.2, hlen8]; exact hout8, Nat.le_trans S7 hset.2.size⟩)
          have hat := bdsAt_row (rs := tellP l i) (by rw [tellP_len (by rw [HL.out.2]; exact Nat.le_of_lt HLT.out), HL.out.2]; exact hrow8) i ⟨q, false, s⟩ (tellP_get HBD.out)
          obtain ⟨g', off, hga, _, z0, z1, z2⟩ := hat
          cases hga
          rw [Nat.zero_add] at z0 z1 z2
          simp only at z0 z1 z2
          have f0 : w1025.frozen? ⟨g, i * 3, none⟩ = false := row_frozen hrow8 _
          have f1 : w1025.frozen? ⟨g, i * 3 + 1, none⟩ = false := row_frozen hrow8 _
          have f2 : w1025.frozen? ⟨g, i * 3 + 2, none⟩ = false := row_frozen hrow8 _
          have x0 : w1025.cell? ⟨wr.heap.size, 0, none⟩ = some (.int .u64 (q : Int)) := X7.cell 0
          clear hset hturn hout8 hrow8 hown7 hgrow7 I7 K7 Q7 X7 S7 hHeld
          go_wp2_with fail
          go_roundw
          case rel => exact ⟨i + 1, by go_num, by have := HLT.out; omega, HE.out.1, HE.out.2.1, HE.out.2.2.1, HE.out.2.2.2.1, HE.out.2.2.2.2⟩
          case measure => have := HLT.out; simp [intOf]; omega
      · obtain rfl : i = n := by omega
        have b1 : ¬ (i : Int) < (i : Int) := by omega
        have HE := Lib.hid (show StsPost b base (A.tell (t, x)) (bdOut (t, x) (A.R (t, x))) w (.returned u5) wr from ⟨u5, rfl, by
          have := own_less hout (Nat.le_succ w.heap.size)
          rw [← HL.out.2, List.take_length, ← HL.out.1] at this
          exact this, ⟨HOK.out.tell _, CT, CR, CN, by
            have e : A.tell (t, x) = { A with R := upd A.R (t, x) (tellP l i) } := by
              unfold Ak.tell
              rw [← HL.out.2, tellP_all, HL.out.1]
            rw [e]; exact hin⟩, hkp⟩)
        clear hin hkp hq hout hrow hsz
        go_wp2_with fail
        go_ret
        exact HE.out
end Go.Proofs.YtogkdekjcbljnaaDoor
