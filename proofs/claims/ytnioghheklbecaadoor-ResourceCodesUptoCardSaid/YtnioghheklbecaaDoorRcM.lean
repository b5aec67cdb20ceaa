/- resource: fields in blocks, loaded and stored whole. resource: the reference's Last, Put, Get. resource: the reference's Last. resource: the reference's Put. resource: the reference's Get. The law's bend: the walk: it answers some text of the same length. resource: a Thing that came in, with its name's length. ResourceCodes: the walk. -/
import Derived.Test.YtnioghheklbecaaDoorVrGet
import Derived.Laws.Rows
import Derived.Laws.Tables
import Derived.Lib.Hide
import Derived.Test.YtnioghheklbecaaDoorRefParse
import Derived.Test.YtnioghheklbecaaDoorCkRight
import Derived.Test.YtnioghheklbecaaDoorRefPut
import Derived.Test.YtnioghheklbecaaDoorVrPut
import Derived.Deep.DeepCutAuto
import Derived.Deep.CutRange
import Derived.Deep.CutBlock
import Derived.Test.YtnioghheklbecaaDoorChecked
import Derived.Test.YtnioghheklbecaaDoorMark
import Derived.WalkLawsBesides
import Derived.WalkSpells
import Derived.Outline
import Derived.RegionTactic
import Derived.ChangeAlike
import Derived.BigRegion
import Derived.Test.YtnioghheklbecaaDoorVrThingA
import Derived.Test.YtnioghheklbecaaDoorVrThings
import Derived.Test.YtnioghheklbecaaDoorVrEx
import Derived.Laws.StructEq
import Derived.BigGuardPart
namespace Go.Proofs.YtnioghheklbecaaDoor
open Go.RowKit Go.Lib

theorem Blk.later {W W' : World} {B : Nat} {c : Array Value} {t : TypeId} (h : Blk W B c t) (hb : Below W.heap.size W W') : Blk W' B c t := h.below hb h.lt
theorem alloc_sized (w : World) (cs : Array Value) (t : TypeId) : ∃ w', w.alloc (.cells cs t) = w' ∧ Below w.heap.size w w' ∧ Blk w' w.heap.size cs t ∧ w'.heap.size = w.heap.size + 1 :=
  ⟨_, rfl, (Below.refl _ _).alloc (Nat.le_refl _) _, Blk.new _ _ _, by simp⟩
/-- All that stood in W is as it was. -/
def Base (W w : World) : Prop := Below W.heap.size W w
theorem Base.later {W w w' : World} (h : Base W w) (hb : Below w.heap.size w w') : Base W w' := Below.trans h (hb.mono (Below.size h))
theorem alloc_new (w : World) (cs : Array Value) (t : TypeId) : ∃ w', w.alloc (.cells cs t) = w' ∧ Below w.heap.size w w' ∧ Blk w' w.heap.size cs t := ⟨_, rfl, (Below.refl _ _).alloc (Nat.le_refl _) _, Blk.new _ _ _⟩
theorem drew_new (w : World) : ∃ w', w.drew = w' ∧ Below w.heap.size w w' := ⟨_, rfl, (Below.refl _ _).drew⟩
/-- But for block b, all is as it was. -/
structure Just (b : Nat) (w w' : World) : Prop where
  os : w'.os = w.os
  tape : w'.tape = w.tape
  output : w'.output = w.output
  size : w'.heap.size = w.heap.size
  block : ∀ k, k ≠ b → w'.heap[k]? = w.heap[k]?
theorem Just.below {b n : Nat} {w w' : World} (h : Just b w w') (hn : n ≤ b) : Below n w w' := ⟨h.os, h.tape, h.output, by rw [h.size]; exact Nat.le_refl _, fun k hk => h.block k (by omega)⟩
theorem Just.blk {b k : Nat} {w w' : World} {c : Array Value} {t : TypeId} (h : Just b w w') (hk : k ≠ b) (hb : Blk w k c t) : Blk w' k c t := (h.block k hk).trans hb
theorem Just.cell {b : Nat} {w w' : World} {g o : Nat} (h : Just b w w') (hg : g ≠ b) : w'.cell? ⟨g, o, none⟩ = w.cell? ⟨g, o, none⟩ := by
  unfold World.cell?
  rw [h.block g hg]
theorem Just.row {b : Nat} {w w' : World} {g : Nat} {fs : List Fd} (h : Just b w w') (hg : g ≠ b) (hr : RowAt w g fs) : RowAt w' g fs :=
  ⟨by rw [h.size]; exact hr.1, fun i hi => by
    obtain ⟨h0, h1, h2, h3⟩ := hr.2 i hi
    exact ⟨(h.cell hg).trans h0, (h.cell hg).trans h1, (h.cell hg).trans h2, (h.cell hg).trans h3⟩⟩
theorem row_new {w : World} {b : Nat} {c : Array Value} {t : TypeId} (hb : Blk w b c t) (c' : Array Value) : ∃ w', w.setRow b c' = w' ∧ Blk w' b c' t ∧ Just b w w' :=
  ⟨_, rfl, setRow_heap w b c c' t (0, 0) hb, rfl, rfl, rfl, setRow_size w b c', fun k hk => setRow_other w b k c' hk⟩
abbrev FT : TypeId := 57
theorem Tryd.infoFt : (Tryd.prog.info? FT).map (·.size) = some 4 := by kernel_rfl
section
variable {Q : Exit → Act → World → Prop} {a : Act} {w : World} {ops : Array Oper} {rest : List Oper} {o : Oper} {K : Act → World → Prop}
theorem wpList_load_ft (x : Operand) (b : Nat) {cs : Array Value} (hg : o.guard = none) (ho : o.op = .load FT x) (hx : a.eval x = .pointer (some ⟨b, 0, none⟩)) (hb : Blk w b cs FT) (hz : cs.size = 4) (h : wpList Tryd.prog ops Q rest (a.put o.dst (.agg cs)) w) : wpList Tryd.prog ops Q (o :: rest) a w :=
  wpList_plain hg fun _ hK => wp_load_row FT x ho b hx FT cs (0, 0) _ hb Tryd.underlying57 rfl (by rw [hz]; exact Tryd.infoFt) (hK _ _ h)
theorem wpList_store_ft (x y : Operand) (b : Nat) {cs0 cs : Array Value} (hg : o.guard = none) (ho : o.op = .store FT x y) (hx : a.eval x = .pointer (some ⟨b, 0, none⟩)) (hy : a.eval y = .agg cs) (hb : Blk w b cs0 FT) (hz0 : cs0.size = 4) (hz : cs.size = 4) (h1 : cs.all (·.oneCell') = true) (h : ∀ w', Blk w' b cs FT → Just b w w' → wpList Tryd.prog ops Q rest (a.put o.dst undef) w') : wpList Tryd.prog ops Q (o :: rest) a w :=
  wpList_plain hg fun _ hK => by
    obtain ⟨w', e, h2, h3⟩ := row_new hb cs
    refine wp_store_row FT x y ho b cs hx hy FT cs0 hb (by rw [hz]; exact Tryd.infoFt) (by rw [hz, hz0]) h1 ?_
    rw [e]; exact hK _ _ (h w' h2 h3)
theorem run_load_ft {b : Nat} {cs : Array Value} (hb : Blk w b cs FT) (hz : cs.size = 4) : (loadVar FT ⟨b, 0, none⟩).run Tryd.prog w = .ok (.agg cs) w :=
  run_loadVar_row w b FT FT cs (0, 0) _ hb Tryd.underlying57 rfl (by rw [hz]; exact Tryd.infoFt)
end
abbrev RST : TypeId := 26
theorem Tryd.infoRst : (Tryd.prog.info? RST).map (·.size) = some 5 := by kernel_rfl
section
variable {Q : Exit → Act → World → Prop} {a : Act} {w : World} {ops : Array Oper} {rest : List Oper} {o : Oper} {K : Act → World → Prop}
theorem wpList_load_rst (x : Operand) (b : Nat) {cs : Array Value} (hg : o.guard = none) (ho : o.op = .load RST x) (hx : a.eval x = .pointer (some ⟨b, 0, none⟩)) (hb : Blk w b cs RST) (hz : cs.size = 5) (h : wpList Tryd.prog ops Q rest (a.put o.dst (.agg cs)) w) : wpList Tryd.prog ops Q (o :: rest) a w :=
  wpList_plain hg fun _ hK => wp_load_row RST x ho b hx RST cs (0, 0) _ hb Tryd.underlying26 rfl (by rw [hz]; exact Tryd.infoRst) (hK _ _ h)
theorem wpList_store_rst (x y : Operand) (b : Nat) {cs0 cs : Array Value} (hg : o.guard = none) (ho : o.op = .store RST x y) (hx : a.eval x = .pointer (some ⟨b, 0, none⟩)) (hy : a.eval y = .agg cs) (hb : Blk w b cs0 RST) (hz0 : cs0.size = 5) (hz : cs.size = 5) (h1 : cs.all (·.oneCell') = true) (h : ∀ w', Blk w' b cs RST → Just b w w' → wpList Tryd.prog ops Q rest (a.put o.dst undef) w') : wpList Tryd.prog ops Q (o :: rest) a w :=
  wpList_plain hg fun _ hK => by
    obtain ⟨w', e, h2, h3⟩ := row_new hb cs
    refine wp_store_row RST x y ho b cs hx hy RST cs0 hb (by rw [hz]; exact Tryd.infoRst) (by rw [hz, hz0]) h1 ?_
    rw [e]; exact hK _ _ (h w' h2 h3)
theorem run_load_rst {b : Nat} {cs : Array Value} (hb : Blk w b cs RST) (hz : cs.size = 5) : (loadVar RST ⟨b, 0, none⟩).run Tryd.prog w = .ok (.agg cs) w :=
  run_loadVar_row w b RST RST cs (0, 0) _ hb Tryd.underlying26 rfl (by rw [hz]; exact Tryd.infoRst)
end
theorem Tryd.resRGet : Tryd.f10.results = #[.cell 2 RST, .tmp 3] := rfl
theorem Tryd.resRLast : Tryd.f25.results = #[.cell 6 FT, .tmp 7] := rfl
end Go.Proofs.YtnioghheklbecaaDoor
namespace Go.Proofs.YtnioghheklbecaaDoor
open Go.RowKit

theorem refParse_l (t : ByteArray) (w : World) (hs : t.size ≤ 1099511627776) (h0 : 0 < w.heap.size) (fs : List Fd) (n : Nat) (o : Bool) (hn : fs.length = n) (hf : (parse t.data.toList).getD [] = fs) (ho : (parse t.data.toList).isSome = o) :
    Calls Tryd.prog 24 #[.string t] w fun e w' => (∃ a0 g cap, e = .returned (.tuple #[.slice a0 n cap, .bool o]) ∧ (0 < n → a0 = some ⟨g, 0, none⟩) ∧ RowAt w' g fs) ∧ Below w.heap.size w w' := by
  refine (refParse_any t w hs).mono ?_
  cases hp : parse t.data.toList with
  | none =>
    rw [hp] at hf ho
    simp only [Option.getD_none, Option.isSome_none] at hf ho
    subst hf ho hn
    rintro e w' ⟨rfl, hb⟩
    exact ⟨⟨none, 0, 0, rfl, fun h => absurd h (by simp), Nat.lt_of_lt_of_le h0 hb.size, fun i h => absurd h (by simp)⟩, hb⟩
  | some fs' =>
    rw [hp] at hf ho
    simp only [Option.getD_some, Option.isSome_some] at hf ho
    subst hf ho
    rintro e w' ⟨⟨v, rfl, hrow⟩, hb⟩
    subst hn
    obtain ⟨a0, g, c, rfl, h1, h2⟩ := list_of hrow rfl (Nat.lt_of_lt_of_le h0 hb.size)
    exact ⟨⟨a0, g, c, rfl, h1, h2⟩, hb⟩

/-- Are all that have that number of that kind? -/
def lastK (num kind : Int) (fs : List Fd) : Bool := (withL num fs).all fun f => ((f.kind : Nat) : Int) == kind
abbrev Fd.cs (f : Fd) : Array Value := #[.int .i64 ((f.num : Nat) : Int), .int .i64 ((f.kind : Nat) : Int), .int .u64 ((f.n : Nat) : Int), .string ⟨f.s.toArray⟩]
theorem lastF_yes {num : Int} {fs : List Fd} {k : Nat} (h : k < fs.length) (hp : ((fs[k].num : Nat) : Int) = num) : lastF num (fs.take (k + 1)) = fs[k] := by
  unfold lastF; rw [withL_yes h hp]; simp
theorem lastF_no {num : Int} {fs : List Fd} {k : Nat} (h : k < fs.length) (hp : ¬ ((fs[k].num : Nat) : Int) = num) : lastF num (fs.take (k + 1)) = lastF num (fs.take k) := by
  unfold lastF; rw [withL_no h hp]
theorem lastK_bad {num kind : Int} {fs : List Fd} {k : Nat} (h : k < fs.length) (hp : ((fs[k].num : Nat) : Int) = num) (hk : ¬ ((fs[k].kind : Nat) : Int) = kind) : lastK num kind fs = false := by
  unfold lastK
  rw [List.all_eq_false]
  refine ⟨fs[k], ?_, by simpa using hk⟩
  unfold withL
  exact List.mem_filter.2 ⟨List.getElem_mem _, by simp [hasNum, hp]⟩
theorem lastK_step {num kind : Int} {fs : List Fd} {k : Nat} (h : k < fs.length) (hp : ((fs[k].num : Nat) : Int) = num) (hk : ((fs[k].kind : Nat) : Int) = kind) (hl : lastK num kind (fs.take k) = true) : lastK num kind (fs.take (k + 1)) = true := by
  unfold lastK at hl ⊢
  rw [withL_yes h hp, List.all_append, hl]; simp [hk]
theorem lastK_same {num kind : Int} {fs : List Fd} {k : Nat} (h : k < fs.length) (hp : ¬ ((fs[k].num : Nat) : Int) = num) (hl : lastK num kind (fs.take k) = true) : lastK num kind (fs.take (k + 1)) = true := by
  unfold lastK at hl ⊢
  rw [withL_no h hp]; exact hl
theorem fieldOf_facts {l : List UInt8} {f : Fd} {k : Nat} (h : fieldOf l = some (f, k)) : f.n < 2 ^ 64 ∧ f.s.length ≤ l.length := by
  unfold fieldOf at h
  split at h
  · simp at h
  · rename_i t k0 ht
    split at h
    · split at h
      · simp at h; obtain ⟨rfl, _⟩ := h; simp; omega
      · simp at h
    · split at h
      · simp at h
      · rename_i v m hr
        have hv := rd_bound hr
        split at h
        · simp at h; obtain ⟨rfl, _⟩ := h; exact ⟨hv, by simp⟩
        · split at h
          · simp at h; obtain ⟨rfl, _⟩ := h; simp; omega
          · simp at h
theorem parse_facts : ∀ (n : Nat) {l : List UInt8} {fs : List Fd}, l.length ≤ n → parse l = some fs → ∀ f ∈ fs, f.n < 2 ^ 64 ∧ f.s.length ≤ l.length
  | 0, l, fs, hl, h => by
    have : l = [] := List.eq_nil_of_length_eq_zero (by omega)
    subst this
    rw [parse_nil] at h; simp at h; subst h; simp
  | n + 1, l, fs, hl, h => by
    by_cases h0 : l.length = 0
    · have : l = [] := List.eq_nil_of_length_eq_zero h0
      subst this
      rw [parse_nil] at h; simp at h; subst h; simp
    · cases hf : fieldOf l with
      | none => rw [parse_none hf (by omega)] at h; simp at h
      | some r =>
        obtain ⟨x, k⟩ := r
        rw [parse_some hf] at h
        have hk := fieldOf_size hf
        obtain ⟨gs, hg, rfl⟩ := Option.map_eq_some_iff.1 h
        have ih := parse_facts n (l := l.drop k) (by simp; omega) hg
        intro f hm
        rcases List.mem_cons.1 hm with rfl | hm
        · exact fieldOf_facts hf
        · have := ih f hm; simp at this; exact ⟨this.1, by omega⟩

/-- All five lasts are of their kinds just where no field is of another one. -/
theorem othK_is (f : Fd) : ((!(decide (((f.num : Nat) : Int) = 1)) || (((f.kind : Nat) : Int) == 0)) && (!(decide (((f.num : Nat) : Int) = 2)) || (((f.kind : Nat) : Int) == 2)) && (!(decide (((f.num : Nat) : Int) = 3)) || (((f.kind : Nat) : Int) == 0)) && (!(decide (((f.num : Nat) : Int) = 4)) || (((f.kind : Nat) : Int) == 0)) && (!(decide (((f.num : Nat) : Int) = 5)) || (((f.kind : Nat) : Int) == 2))) = !othK f := by
  have e0 : (((f.kind : Nat) : Int) == 0) = (f.kind == 0) := by rw [Bool.eq_iff_iff]; simp
  have e2 : (((f.kind : Nat) : Int) == 2) = (f.kind == 2) := by rw [Bool.eq_iff_iff]; simp; omega
  rw [e0, e2]
  unfold othK
  by_cases h1 : f.num = 1
  · simp [h1]
  · by_cases h2 : f.num = 2
    · simp [h2]
    · by_cases h3 : f.num = 3
      · simp [h3]
      · by_cases h4 : f.num = 4
        · simp [h4]
        · by_cases h5 : f.num = 5
          · simp [h5]
          · have n1 : ¬ ((f.num : Nat) : Int) = 1 := by omega
            have n2 : ¬ ((f.num : Nat) : Int) = 2 := by omega
            have n3 : ¬ ((f.num : Nat) : Int) = 3 := by omega
            have n4 : ¬ ((f.num : Nat) : Int) = 4 := by omega
            have n5 : ¬ ((f.num : Nat) : Int) = 5 := by omega
            simp [h1, h2, h3, h4, h5, n1, n2, n3, n4, n5]
theorem lastK_all (fs : List Fd) : (lastK 1 0 fs && lastK 2 2 fs && lastK 3 0 fs && lastK 4 0 fs && lastK 5 2 fs) = !fs.any othK := by
  have key : ∀ num kind : Int, lastK num kind fs = fs.all fun f => !(decide (((f.num : Nat) : Int) = num)) || (((f.kind : Nat) : Int) == kind) := by
    intro num kind
    unfold lastK withL
    rw [List.all_filter]
    first | rfl | (congr 1; funext f; simp [hasNum])
  simp only [key]
  clear key
  induction fs with
  | nil => rfl
  | cons f fs ih =>
    simp only [List.all_cons, List.any_cons, Bool.not_or]
    rw [← othK_is f, ← ih]
    ac_rfl
theorem Vr.fits_of_ok {r : Vr} (h : r.ok = true) : r.Fits := by
  obtain ⟨t, x, q, g, s⟩ := r
  have h' : rsOk t x (q : Int) g s = true := h
  unfold rsOk kyOk at h'
  simp only [Bool.and_eq_true, decide_eq_true_eq, Bool.not_eq_true', decide_eq_false_iff_not, Bool.or_eq_true] at h'
  obtain ⟨⟨⟨h1, h5⟩, hn⟩, hs, hb, hg, hq1, hq2⟩ := h'
  have hx : x.size ≤ 64 := by
    rcases hn with h | h
    · rw [hs] at h; cases h
    · unfold nmOk at h
      simp only [Bool.and_eq_true, decide_eq_true_eq] at h
      exact h.1.2
  exact ⟨h1, h5, hx, by show q < 2 ^ 64; omega, by show s.size ≤ 1024; omega⟩
/-- What Get is, by the lasts. -/
theorem getV_is (l : List UInt8) (fs : List Fd) (o : Bool) (hf : (parse l).getD [] = fs) (ho : (parse l).isSome = o) :
    getV l = if (o && (lastK 1 0 fs && lastK 2 2 fs && lastK 3 0 fs && lastK 4 0 fs && lastK 5 2 fs) && madeOk fs && (madeV fs).ok) = true then some (madeV fs) else none := by
  unfold getV
  cases hp : parse l with
  | none =>
    rw [hp] at ho
    simp only [Option.isSome_none] at ho
    subst ho
    rfl
  | some gs =>
    rw [hp] at hf ho
    simp only [Option.getD_some, Option.isSome_some] at hf ho
    subst hf ho
    rw [lastK_all]
    show (if gs.any othK = true then none else if (madeOk gs && (madeV gs).ok) = true then some (madeV gs) else none) = _
    cases gs.any othK <;> cases madeOk gs <;> cases (madeV gs).ok <;> rfl
end Go.Proofs.YtnioghheklbecaaDoor
namespace Go.Proofs.YtnioghheklbecaaDoor
open Go.RowKit Go.Lib

theorem Fd.cs_one (f : Fd) : f.cs.all (·.oneCell') = true := by simp [Fd.cs, Value.oneCell']
set_option maxRecDepth 100000 in
set_option maxHeartbeats 4000000 in
theorem rlast_any (a0 : Option Addr) (L cap g : Nat) (fs : List Fd) (num kind : Int) (w : World) (hL : fs.length = L) (ha : 0 < L → a0 = some ⟨g, 0, none⟩) (hr : RowAt w g fs) (hLb : L ≤ 1099511627776) :
    Calls Tryd.prog 25 #[.slice a0 L cap, .int .i64 num, .int .i64 kind] w fun e w' => (∃ f : Fd, e = .returned (.tuple #[.agg f.cs, .bool (lastK num kind fs)]) ∧ (lastK num kind fs = true → f = lastF num fs)) ∧ Below w.heap.size w w' := by
  obtain ⟨v0, hv0, hb0, p0, z0⟩ := alloc_sized w #[.int .i64 0, .int .i64 0, .int .u64 0, .string ⟨#[]⟩] FT
  obtain ⟨v1, hv1, hb1, p1, z1⟩ := alloc_sized v0 #[.int .i64 0, .int .i64 0, .int .u64 0, .string ⟨#[]⟩] FT
  have hbw := hb0.trans (hb1.mono hb0.size)
  have hgw := hr.1
  have HR := Lib.hid (And.intro (p0.later hb1) (And.intro p1 (And.intro (hr.below hbw) hbw)))
  have HL := Lib.hid (And.intro hL ha)
  have HV0 := Lib.hid hv0
  have HV1 := Lib.hid hv1
  have HZ := Lib.hid (And.intro z0 (And.intro z1 hgw))
  clear hv0 hv1 hb0 hb1 p0 p1 z0 z1 hbw hgw hr hL ha
  go_enter Tryd.func25, Tryd.ntmps25
  go_wp2_with (first | rw [HV0.out] | rw [HV1.out] | (refine wpList_store_ft _ _ v0.heap.size rfl rfl (by rfl) (by rfl) HR.out.2.1 rfl (by rfl) (by simp [Value.oneCell']) ?_; intro v2 p2 j2; simp only [Act.put]))
  have HR1 := Lib.hid (And.intro (j2.blk (k := w.heap.size) (by have := HZ.out; omega) HR.out.1) (And.intro (j2.row (by have := HZ.out; omega) HR.out.2.2.1) (HR.out.2.2.2.trans (j2.below (by have := HZ.out; omega)))))
  have HZ2 := Lib.hid (And.intro HZ.out.1 HZ.out.2.2)
  clear HR j2 HV0 HV1 HZ v1
  have HP2 := Lib.hid p2
  clear p2
  go_loopw [9] (fun i wx => ∃ k : Nat, k ≤ L ∧ i = .int .i64 (k : Int) ∧ lastK num kind (fs.take k) = true ∧ Blk wx v0.heap.size (lastF num (fs.take k)).cs FT ∧ Blk wx w.heap.size #[.int .i64 0, .int .i64 0, .int .u64 0, .string ⟨#[]⟩] FT ∧ RowAt wx g fs ∧ Below w.heap.size w wx) (fun i _ => L - (RowKit.intOf i).toNat)
  case atStart => exact ⟨0, Nat.zero_le _, rfl, rfl, HP2.out, HR1.out.1, HR1.out.2.1, HR1.out.2.2⟩
  case round =>
    obtain ⟨k, hk, rfl, hyes, hcur, hres, hrow, hb⟩ := hrel
    have HY := Lib.hid hyes
    have HB := Lib.hid hb
    clear hyes hb
    by_cases hlt : k < L
    · have ea := HL.out.2 (by omega)
      subst ea
      have hkg : k < fs.length := by have := HL.out.1; omega
      obtain ⟨p0, p1, p2, p3⟩ := hrow.2 k hkg
      have HROW := Lib.hid hrow
      clear hrow
      have hyn := Lib.hid (fun h => lastF_yes (fs := fs) (num := num) hkg h)
      have hnn := Lib.hid (fun h => lastF_no (fs := fs) (num := num) hkg h)
      have hbad := Lib.hid (fun h h' => lastK_bad (fs := fs) (num := num) (kind := kind) hkg h h')
      have hstep := Lib.hid (fun h h' => lastK_step (fs := fs) (num := num) (kind := kind) hkg h h' HY.out)
      have hsame := Lib.hid (fun h => lastK_same (fs := fs) (num := num) (kind := kind) hkg h HY.out)
      generalize fs[k] = f at p0 p1 p2 p3 hyn hnn hbad hstep hsame
      generalize lastF num (fs.take k) = cur at hcur hnn
      clear hkg
      have HC := Lib.hid hcur
      have HS := Lib.hid hres
      clear hcur hres
      by_cases hp : ((f.num : Nat) : Int) = num
      · have hpq : (((f.num : Nat) : Int) == num) = true := by simpa using hp
        by_cases hq : ((f.kind : Nat) : Int) = kind
        · have hqq : (((f.kind : Nat) : Int) == kind) = true := by simpa using hq
          have HQ := Lib.hid (And.intro (hyn.out hp) (hstep.out hp hq))
          clear hyn hnn hbad hstep hsame hp hq
          go_wp2_with (refine wpList_store_ft _ _ v0.heap.size rfl rfl (by rfl) (by rfl) HC.out rfl (by rfl) (by simp [Value.oneCell']) ?_; intro v3 p3' j3; simp only [Act.put])
          go_roundw
          case rel => exact ⟨k + 1, by omega, by go_num, HQ.out.2, by rw [HQ.out.1]; exact p3', j3.blk (by have := HZ2.out; omega) HS.out, j3.row (by have := HZ2.out; omega) HROW.out, HB.out.trans (j3.below (by have := HZ2.out; omega))⟩
          case measure => simp [RowKit.intOf]; omega
        · have hqq : (((f.kind : Nat) : Int) == kind) = false := by simpa using hq
          have HQ := Lib.hid (hbad.out hp hq)
          clear hyn hnn hbad hstep hsame hp hq
          go_wp2_with (first | (refine wpList_load_ft _ v0.heap.size rfl rfl (by rfl) HC.out rfl ?_; simp only [Act.put, List.setIfInBounds_toArray, List.set_cons_zero, List.set_cons_succ]) | (refine wpList_store_ft _ _ w.heap.size rfl rfl (by rfl) (by rfl) HS.out rfl (by rfl) (by simp [Value.oneCell']) ?_; intro w9 p9 j9; simp only [Act.put]; go_wp2_with fail; have hl := run_load_ft p9 rfl; refine bodyPost_ret (v := .tuple #[.agg cur.cs, .bool false]) (by simp [results, hl, asAddr]) rfl ?_; exact ⟨⟨cur, by rw [HQ.out], fun h => absurd h (by rw [HQ.out]; simp)⟩, HB.out.trans (j9.below (Nat.le_refl _))⟩))
      · have hpq : (((f.num : Nat) : Int) == num) = false := by simpa using hp
        have HQ := Lib.hid (And.intro (hnn.out hp) (hsame.out hp))
        clear hyn hnn hbad hstep hsame hp
        go_wp2_with fail
        go_roundw
        case rel => exact ⟨k + 1, by omega, by go_num, HQ.out.2, by rw [HQ.out.1]; exact HC.out, HS.out, HROW.out, HB.out⟩
        case measure => simp [RowKit.intOf]; omega
    · obtain rfl : k = L := by omega
      have hall : fs.take k = fs := List.take_of_length_le (by have := HL.out.1; omega)
      rw [hall] at HY hcur
      have HC := Lib.hid hcur
      have HS := Lib.hid hres
      clear hall hcur hres hrow
      go_wp2_with (first | (refine wpList_load_ft _ v0.heap.size rfl rfl (by rfl) HC.out rfl ?_; simp only [Act.put, List.setIfInBounds_toArray, List.set_cons_zero, List.set_cons_succ]) | (refine wpList_store_ft _ _ w.heap.size rfl rfl (by rfl) (by rfl) HS.out rfl (by rfl) (by simp [Value.oneCell']) ?_; intro w9 p9 j9; simp only [Act.put]; go_wp2_with fail; have hl := run_load_ft p9 rfl; refine bodyPost_ret (v := .tuple #[.agg (lastF num fs).cs, .bool true]) (by simp [results, hl, asAddr]) rfl ?_; exact ⟨⟨(lastF num fs), by rw [HY.out], fun _ => rfl⟩, HB.out.trans (j9.below (Nat.le_refl _))⟩))
end Go.Proofs.YtnioghheklbecaaDoor
namespace Go.Proofs.YtnioghheklbecaaDoor
open Go.RowKit Go.Lib

set_option maxRecDepth 100000 in
set_option maxHeartbeats 2000000 in
theorem rput_no (r : Vr) (w : World) (hx : r.x.size ≤ maxLen) (hok : r.ok = false) :
    Calls Tryd.prog 7 #[r.v] w fun e w' => e = .returned (.tuple #[.string ⟨#[]⟩, .bool false]) ∧ Below w.heap.size w w' := by
  obtain ⟨t, x, q, g, s⟩ := r
  have HO := Lib.hid (show rsOk t x (q : Int) g s = false from hok); clear hok
  have hb0 := Lib.hid ((Below.refl w.heap.size w).alloc (Nat.le_refl _) (.cells #[.int .i64 t, .string x, .int .u64 (q : Int), .bool g, .string s] 26))
  have HX := Lib.hid (show x.size ≤ maxLen from hx); clear hx
  go_enter Tryd.func7, Tryd.ntmps7
  go_wp2_with fail
  refine (rright_any t x (q : Int) g s _ HX.out).mono ?_
  rw [HO.out]
  rintro e w1 ⟨rfl, hb1⟩
  go_wp2_with fail
  go_ret2
  exact ⟨rfl, hb0.out.trans (hb1.mono hb0.out.size)⟩
theorem cat_l (l m : List UInt8) : ({ data := l.toArray } : ByteArray) ++ { data := m.toArray } = { data := (l ++ m).toArray } := by
  apply ByteArray.ext; simp
set_option maxRecDepth 100000 in
set_option maxHeartbeats 4000000 in
theorem rput_ok (r : Vr) (w : World) (hok : r.ok = true) :
    Calls Tryd.prog 7 #[r.v] w fun e w' => e = .returned (.tuple #[.string ⟨r.put.toArray⟩, .bool true]) ∧ Below w.heap.size w w' := by
  have hfit := Vr.fits_of_ok hok
  obtain ⟨t, x, q, g, s⟩ := r
  have ht1 : 1 ≤ t := hfit.t1
  have ht5 : t ≤ 5 := hfit.t5
  obtain ⟨T, rfl⟩ := Int.eq_ofNat_of_zero_le (show 0 ≤ t by omega)
  have hxs : x.size ≤ 64 := hfit.x
  have hq64 : q < 2 ^ 64 := hfit.q
  have hss : s.size ≤ 1024 := hfit.s
  have hw : IntKind.u64.wrap (T : Int) = (T : Int) := by rw [IntKind.wrap_u64]; omega
  obtain ⟨A, hA⟩ : ∃ A, numberL 1 T = A := ⟨_, rfl⟩
  obtain ⟨B, hB⟩ : ∃ B, textL 2 x = B := ⟨_, rfl⟩
  obtain ⟨C, hC⟩ : ∃ C, numberL 3 q = C := ⟨_, rfl⟩
  obtain ⟨E, hE⟩ : ∃ E, numberL 4 1 = E := ⟨_, rfl⟩
  obtain ⟨F, hF⟩ : ∃ F, textL 5 s = F := ⟨_, rfl⟩
  have lA : A.length ≤ 20 := by rw [← hA]; exact numberL_small _ _
  have lB : B.length ≤ 20 + x.size := by rw [← hB]; exact textL_small _ _
  have lC : C.length ≤ 20 := by rw [← hC]; exact numberL_small _ _
  have lE : E.length ≤ 20 := by rw [← hE]; exact numberL_small _ _
  have lF : F.length ≤ 20 + s.size := by rw [← hF]; exact textL_small _ _
  have HP := Lib.hid (show (Vr.mk (T : Int) x q g s).put = A ++ B ++ C ++ (if g then E else []) ++ (if s.size = 0 then [] else F) by
    unfold Vr.put; simp only [Int.toNat_natCast, hA, hB, hC, hE, hF])
  have n1 : ¬ 9223372036854775807 < A.length + B.length := by omega
  have n2 : ¬ 9223372036854775807 < A.length + B.length + C.length := by omega
  have n3 : ¬ 9223372036854775807 < A.length + B.length + C.length + E.length := by omega
  have n4 : ¬ 9223372036854775807 < A.length + B.length + C.length + F.length := by omega
  have n5 : ¬ 9223372036854775807 < A.length + B.length + C.length + E.length + F.length := by omega
  have n1' : ¬ 9223372036854775807 < (A ++ B).length := by rw [List.length_append]; omega
  have hcat := cat_l
  have HN := Lib.hid (And.intro hA (And.intro hB (And.intro hC (And.intro hE hF))))
  have HQ := Lib.hid (And.intro hq64 (And.intro hxs (And.intro hss (show T < 2 ^ 64 by omega))))
  have HOK := Lib.hid (show rsOk (T : Int) x (q : Int) g s = true from hok)
  obtain ⟨v0, hv0, hb0, p0, z0⟩ := alloc_sized w #[.int .i64 (T : Int), .string x, .int .u64 (q : Int), .bool g, .string s] 26
  have HV0 := Lib.hid hv0
  have k0 : v0.cell? ⟨w.heap.size, 0, none⟩ = some (.int .i64 (T : Int)) := p0.cell 0
  have k1 : v0.cell? ⟨w.heap.size, 1, none⟩ = some (.string x) := p0.cell 1
  have k2 : v0.cell? ⟨w.heap.size, 2, none⟩ = some (.int .u64 (q : Int)) := p0.cell 2
  have k3 : v0.cell? ⟨w.heap.size, 3, none⟩ = some (.bool g) := p0.cell 3
  have k4 : v0.cell? ⟨w.heap.size, 4, none⟩ = some (.string s) := p0.cell 4
  clear hok hfit hxs hq64 hss hA hB hC hE hF hv0 z0 lA lB lC lE lF ht1 ht5
  go_enter Tryd.func7, Tryd.ntmps7
  go_wp2_with (rw [HV0.out])
  refine (rright_any (T : Int) x (q : Int) g s _ (by have := HQ.out.2.1; unfold maxLen; omega)).mono ?_
  rw [HOK.out]
  rintro e v1 ⟨rfl, hb1⟩
  have hPr := p0.later hb1
  have hB0 : Base w v1 := hb0.trans (hb1.mono hb0.size)
  clear p0 hb0 hb1 k0 k1 k2 k3 k4
  have k0 : v1.cell? ⟨w.heap.size, 0, none⟩ = some (.int .i64 (T : Int)) := hPr.cell 0
  have k1 : v1.cell? ⟨w.heap.size, 1, none⟩ = some (.string x) := hPr.cell 1
  have k2 : v1.cell? ⟨w.heap.size, 2, none⟩ = some (.int .u64 (q : Int)) := hPr.cell 2
  dsimp only
  go_wp2_with fail
  obtain ⟨w101, hw102, hb103⟩ := drew_new v1
  have q104 := hB0.later hb103
  have q105 := hPr.later hb103
  refine wp_region_held_drew (S := (fun w' => w'.cell? ⟨w.heap.size, 0, none⟩ = some (.int .i64 (T : Int)) ∧ w'.cell? ⟨w.heap.size, 1, none⟩ = some (.string x) ∧ w'.cell? ⟨w.heap.size, 2, none⟩ = some (.int .u64 (q : Int)) ∧ w'.cell? ⟨w.heap.size, 3, none⟩ = some (.bool g) ∧ w'.cell? ⟨w.heap.size, 4, none⟩ = some (.string s) ∧ True)) (by kernel_rfl) (by rw [hw102]; exact ⟨q105.cell 0, q105.cell 1, q105.cell 2, q105.cell 3, q105.cell 4, trivial⟩) (fun hHeld => ?_)
  rw [hw102] at hHeld ⊢
  refine wpAnyH_take (i := 0) (oi := { dst := some 10, op := Op.fieldAddr 26 (Operand.tmp 1) 0, type := 0, pos := "ref.go:16", after := #[], guard := none }) (v := ?v1001) rfl (by kernel_rfl) (by kernel_rfl) (by kernel_rfl) (fun _ _ _ h => h) (Or.inl ⟨by rfl, ?hy1001⟩) (by assumption) ?rest1001
  case hy1001 => (intro w1 hSw; (try dsimp only at hSw); obtain ⟨h0, h1, h2, h3, h4, -⟩ := hSw; go_simp; try with_reducible rfl)
  try simp only [Act.put, List.setIfInBounds_toArray, List.set_cons_zero, List.set_cons_succ]
  refine wpAnyH_take (i := 1) (oi := { dst := some 11, op := Op.fieldAddr 23 (Operand.tmp 10) 0, type := 0, pos := "ref.go:16", after := #[{ on := 0, ground := Ground.data }], guard := none }) (v := ?v1002) rfl (by kernel_rfl) (by kernel_rfl) (by kernel_rfl) (fun _ _ _ h => h) (Or.inl ⟨by rfl, ?hy1002⟩) (by assumption) ?rest1002
  case hy1002 => (intro w1 hSw; (try dsimp only at hSw); obtain ⟨h0, h1, h2, h3, h4, -⟩ := hSw; go_simp; try with_reducible rfl)
  try simp only [Act.put, List.setIfInBounds_toArray, List.set_cons_zero, List.set_cons_succ]
  refine wpAnyH_take (i := 2) (oi := { dst := some 12, op := Op.load 3 (Operand.tmp 11), type := 3, pos := "ref.go:16", after := #[{ on := 1, ground := Ground.data }], guard := none }) (v := ?v1003) rfl (by kernel_rfl) (by kernel_rfl) (by kernel_rfl) (fun _ _ _ h => h) (Or.inl ⟨by rfl, ?hy1003⟩) (by assumption) ?rest1003
  case hy1003 => (intro w1 hSw; (try dsimp only at hSw); obtain ⟨h0, h1, h2, h3, h4, -⟩ := hSw; go_simp; try with_reducible rfl)
  try simp only [Act.put, List.setIfInBounds_toArray, List.set_cons_zero, List.set_cons_succ]
  refine wpAnyH_take (i := 3) (oi := { dst := some 13, op := Op.convert 3 24 (Operand.tmp 12), type := 24, pos := "ref.go:16", after := #[{ on := 2, ground := Ground.data }], guard := none }) (v := ?v1004) rfl (by kernel_rfl) (by kernel_rfl) (by kernel_rfl) (fun _ _ _ h => h) (Or.inl ⟨by rfl, ?hy1004⟩) (by assumption) ?rest1004
  case hy1004 => (intro w1 hSw; (try dsimp only at hSw); obtain ⟨h0, h1, h2, h3, h4, -⟩ := hSw; go_simp; try with_reducible rfl)
  try simp only [Act.put, List.setIfInBounds_toArray, List.set_cons_zero, List.set_cons_succ]
  refine wpAnyH_take (i := 5) (oi := { dst := some 15, op := Op.fieldAddr 26 (Operand.tmp 1) 0, type := 0, pos := "ref.go:16", after := #[], guard := none }) (v := ?v1005) rfl (by kernel_rfl) (by kernel_rfl) (by kernel_rfl) (fun _ _ _ h => h) (Or.inl ⟨by rfl, ?hy1005⟩) (by assumption) ?rest1005
  case hy1005 => (intro w1 hSw; (try dsimp only at hSw); obtain ⟨h0, h1, h2, h3, h4, -⟩ := hSw; go_simp; try with_reducible rfl)
  try simp only [Act.put, List.setIfInBounds_toArray, List.set_cons_zero, List.set_cons_succ]
  refine wpAnyH_take (i := 6) (oi := { dst := some 16, op := Op.fieldAddr 23 (Operand.tmp 15) 1, type := 0, pos := "ref.go:16", after := #[{ on := 5, ground := Ground.data }], guard := none }) (v := ?v1006) rfl (by kernel_rfl) (by kernel_rfl) (by kernel_rfl) (fun _ _ _ h => h) (Or.inl ⟨by rfl, ?hy1006⟩) (by assumption) ?rest1006
  case hy1006 => (intro w1 hSw; (try dsimp only at hSw); obtain ⟨h0, h1, h2, h3, h4, -⟩ := hSw; go_simp; try with_reducible rfl)
  try simp only [Act.put, List.setIfInBounds_toArray, List.set_cons_zero, List.set_cons_succ]
  refine wpAnyH_take (i := 7) (oi := { dst := some 17, op := Op.load 9 (Operand.tmp 16), type := 9, pos := "ref.go:16", after := #[{ on := 6, ground := Ground.data }], guard := none }) (v := ?v1007) rfl (by kernel_rfl) (by kernel_rfl) (by kernel_rfl) (fun _ _ _ h => h) (Or.inl ⟨by rfl, ?hy1007⟩) (by assumption) ?rest1007
  case hy1007 => (intro w1 hSw; (try dsimp only at hSw); obtain ⟨h0, h1, h2, h3, h4, -⟩ := hSw; go_simp; try with_reducible rfl)
  try simp only [Act.put, List.setIfInBounds_toArray, List.set_cons_zero, List.set_cons_succ]
  refine wpAnyH_take (i := 10) (oi := { dst := some 20, op := Op.fieldAddr 26 (Operand.tmp 1) 1, type := 0, pos := "ref.go:16", after := #[], guard := none }) (v := ?v1008) rfl (by kernel_rfl) (by kernel_rfl) (by kernel_rfl) (fun _ _ _ h => h) (Or.inl ⟨by rfl, ?hy1008⟩) (by assumption) ?rest1008
  case hy1008 => (intro w1 hSw; (try dsimp only at hSw); obtain ⟨h0, h1, h2, h3, h4, -⟩ := hSw; go_simp; try with_reducible rfl)
  try simp only [Act.put, List.setIfInBounds_toArray, List.set_cons_zero, List.set_cons_succ]
  refine wpAnyH_take (i := 11) (oi := { dst := some 21, op := Op.load 24 (Operand.tmp 20), type := 24, pos := "ref.go:16", after := #[{ on := 10, ground := Ground.data }], guard := none }) (v := ?v1009) rfl (by kernel_rfl) (by kernel_rfl) (by kernel_rfl) (fun _ _ _ h => h) (Or.inl ⟨by rfl, ?hy1009⟩) (by assumption) ?rest1009
  case hy1009 => (intro w1 hSw; (try dsimp only at hSw); obtain ⟨h0, h1, h2, h3, h4, -⟩ := hSw; go_simp; try with_reducible rfl)
  try simp only [Act.put, List.setIfInBounds_toArray, List.set_cons_zero, List.set_cons_succ]
  refine wpAnyH_ready (rs := [4]) (by kernel_rfl) (by simp) ?_
  refine AllReadyH.cons (o := { dst := some 14, op := Op.call { callee := Callee.value (Operand.func 18), args := #[Operand.const (Value.int IntKind.i64 1), Operand.tmp 13], argTypes := #[3, 24] }, type := 9, pos := "ref.go:16", after := #[{ on := 3, ground := Ground.data }], guard := none }) rfl (fun K hK => ?_) AllReadyH.nil
  go_simp
  refine (refNumber_any 1 T _ HQ.out.2.2.2).mono ?_
  rintro e w106 ⟨rfl, hb107⟩
  have q108 := q104.later hb107
  have q109 := q105.later hb107
  clear q104 q105
  rw [HN.out.1]
  try clear hHeld
  refine hK.out _ _ (⟨q109.cell 0, q109.cell 1, q109.cell 2, q109.cell 3, q109.cell 4, trivial⟩) (fun hHeld => ?_)
  clear hK K
  try simp only [Act.put, List.setIfInBounds_toArray, List.set_cons_zero, List.set_cons_succ]
  refine wpAnyH_ready (rs := [8]) (by kernel_rfl) (by simp) ?_
  refine AllReadyH.cons (o := { dst := some 18, op := Op.call { callee := Callee.value (Operand.func 19), args := #[Operand.const (Value.int IntKind.i64 2), Operand.tmp 17], argTypes := #[3, 9] }, type := 9, pos := "ref.go:16", after := #[{ on := 7, ground := Ground.data }, { on := 4, ground := Ground.chain }], guard := none }) rfl (fun K hK => ?_) AllReadyH.nil
  go_simp
  refine (refText_any 2 x _ (by have := HQ.out.2.1; omega)).mono ?_
  rintro e w110 ⟨rfl, hb111⟩
  have q112 := q108.later hb111
  have q113 := q109.later hb111
  clear q108 q109
  rw [HN.out.2.1]
  try clear hHeld
  refine hK.out _ _ (⟨q113.cell 0, q113.cell 1, q113.cell 2, q113.cell 3, q113.cell 4, trivial⟩) (fun hHeld => ?_)
  clear hK K
  try simp only [Act.put, List.setIfInBounds_toArray, List.set_cons_zero, List.set_cons_succ]
  refine wpAnyH_take (i := 9) (oi := { dst := some 19, op := Op.binOp BinOp.add 9 (Operand.tmp 14) (Operand.tmp 18) 9, type := 9, pos := "ref.go:16", after := #[{ on := 4, ground := Ground.data }, { on := 8, ground := Ground.data }], guard := none }) (v := ?v1010) rfl (by kernel_rfl) (by kernel_rfl) (by kernel_rfl) (fun _ _ _ h => h) (Or.inl ⟨by rfl, ?hy1010⟩) (by assumption) ?rest1010
  case hy1010 => (intro w1 hSw; (try dsimp only at hSw); obtain ⟨h0, h1, h2, h3, h4, -⟩ := hSw; go_simp; try with_reducible rfl)
  try simp only [Act.put, List.setIfInBounds_toArray, List.set_cons_zero, List.set_cons_succ]
  refine wpAnyH_ready (rs := [12]) (by kernel_rfl) (by simp) ?_
  refine AllReadyH.cons (o := { dst := some 22, op := Op.call { callee := Callee.value (Operand.func 18), args := #[Operand.const (Value.int IntKind.i64 3), Operand.tmp 21], argTypes := #[3, 24] }, type := 9, pos := "ref.go:16", after := #[{ on := 11, ground := Ground.data }, { on := 8, ground := Ground.chain }], guard := none }) rfl (fun K hK => ?_) AllReadyH.nil
  go_simp
  refine (refNumber_any 3 q _ HQ.out.1).mono ?_
  rintro e w114 ⟨rfl, hb115⟩
  have q116 := q112.later hb115
  have q117 := q113.later hb115
  clear q112 q113
  rw [HN.out.2.2.1]
  try clear hHeld
  refine hK.out _ _ (⟨q117.cell 0, q117.cell 1, q117.cell 2, q117.cell 3, q117.cell 4, trivial⟩) (fun hHeld => ?_)
  clear hK K
  try simp only [Act.put, List.setIfInBounds_toArray, List.set_cons_zero, List.set_cons_succ]
  refine wpAnyH_take (i := 13) (oi := { dst := some 23, op := Op.binOp BinOp.add 9 (Operand.tmp 19) (Operand.tmp 22) 9, type := 9, pos := "ref.go:16", after := #[{ on := 9, ground := Ground.data }, { on := 12, ground := Ground.data }], guard := none }) (v := ?v1011) rfl (by kernel_rfl) (by kernel_rfl) (by kernel_rfl) (fun _ _ _ h => h) (Or.inl ⟨by rfl, ?hy1011⟩) (by assumption) ?rest1011
  case hy1011 => (intro w1 hSw; (try dsimp only at hSw); obtain ⟨h0, h1, h2, h3, h4, -⟩ := hSw; go_simp; try with_reducible rfl)
  try simp only [Act.put, List.setIfInBounds_toArray, List.set_cons_zero, List.set_cons_succ]
  refine wpAnyH_take (i := 14) (oi := { dst := some 5, op := Op.assign (Operand.tmp 23), type := 9, pos := "ref.go:16", after := #[{ on := 13, ground := Ground.data }, { on := 12, ground := Ground.chain }, { on := 0, ground := Ground.phase }, { on := 1, ground := Ground.phase }, { on := 2, ground := Ground.phase }, { on := 3, ground := Ground.phase }, { on := 4, ground := Ground.phase }, { on := 5, ground := Ground.phase }, { on := 6, ground := Ground.phase }, { on := 7, ground := Ground.phase }, { on := 8, ground := Ground.phase }, { on := 9, ground := Ground.phase }, { on := 10, ground := Ground.phase }, { on := 11, ground := Ground.phase }, { on := 12, ground := Ground.phase }, { on := 13, ground := Ground.phase }], guard := none }) (v := ?v1012) rfl (by kernel_rfl) (by kernel_rfl) (by kernel_rfl) (fun _ _ _ h => h) (Or.inl ⟨by rfl, ?hy1012⟩) (by assumption) ?rest1012
  case hy1012 => (intro w1 hSw; (try dsimp only at hSw); obtain ⟨h0, h1, h2, h3, h4, -⟩ := hSw; go_simp; try with_reducible rfl)
  try simp only [Act.put, List.setIfInBounds_toArray, List.set_cons_zero, List.set_cons_succ]
  refine wpAnyH_done (by kernel_rfl) ?_ _
  clear n1 n1'
  have HP2 := Lib.hid q117
  have HB2 := Lib.hid q116
  have k3 : w114.cell? ⟨w.heap.size, 3, none⟩ = some (.bool g) := HP2.out.cell 3
  have k4 : w114.cell? ⟨w.heap.size, 4, none⟩ = some (.string s) := HP2.out.cell 4
  clear q117 q116
  cases g with
  | false =>
    by_cases hs0 : s.size = 0
    · have hse := ck_empty hs0
      skip
      go_wp2_with fail
      go_ret2
      exact ⟨by rw [HP.out, if_pos hs0]; simp, HB2.out⟩
    · have hse := ck_full (s := s) (by omega)
      go_wp2_with fail
      refine (refText_any 5 s _ (by have := HQ.out.2.2.1; omega)).mono ?_
      rintro e w9 ⟨rfl, hb9⟩
      rw [HN.out.2.2.2.2]
      dsimp only
      go_wp2_with fail
      go_ret2
      exact ⟨by rw [HP.out, if_neg hs0]; simp, Base.later HB2.out hb9⟩
  | true =>
    go_wp2_with fail
    refine (refNumber_any 4 1 _ (by decide)).mono ?_
    rintro e w8 ⟨rfl, hb8⟩
    rw [HN.out.2.2.2.1]
    have k4' : w8.cell? ⟨w.heap.size, 4, none⟩ = some (.string s) := (HP2.out.later hb8).cell 4
    clear k3 k4
    dsimp only
    by_cases hs0 : s.size = 0
    · have hse := ck_empty hs0
      skip
      go_wp2_with fail
      go_ret2
      exact ⟨by rw [HP.out, if_pos hs0]; simp, (HB2.out.later hb8)⟩
    · have hse := ck_full (s := s) (by omega)
      go_wp2_with fail
      refine (refText_any 5 s _ (by have := HQ.out.2.2.1; omega)).mono ?_
      rintro e w9 ⟨rfl, hb9⟩
      rw [HN.out.2.2.2.2]
      dsimp only
      go_wp2_with fail
      go_ret2
      exact ⟨by rw [HP.out, if_neg hs0]; simp, Base.later (HB2.out.later hb8) hb9⟩
end Go.Proofs.YtnioghheklbecaaDoor
namespace Go.Proofs.YtnioghheklbecaaDoor
open Go.RowKit Go.Lib

theorem lastF_small {num : Int} {fs : List Fd} {M : Nat} (h : ∀ f ∈ fs, f.s.length ≤ M) : (lastF num fs).s.length ≤ M := by
  unfold lastF
  cases hl : (withL num fs).getLast? with
  | none => exact Nat.zero_le _
  | some f =>
    have hm : f ∈ withL num fs := List.mem_of_getLast? hl
    exact h f (List.mem_filter.1 hm).1
set_option maxRecDepth 100000 in
set_option maxHeartbeats 8000000 in
theorem rget_any (t : ByteArray) (w : World) (hs : t.size ≤ 1099511627776) (h0 : 0 < w.heap.size) :
    Calls Tryd.prog 10 #[.string t] w fun e w' => e = .returned (.tuple #[getVal (getV t.data.toList), .bool (getV t.data.toList).isSome]) ∧ Below w.heap.size w w' := by
  obtain ⟨fs, hf⟩ : ∃ fs, (parse t.data.toList).getD [] = fs := ⟨_, rfl⟩
  obtain ⟨n, hn⟩ : ∃ n, fs.length = n := ⟨_, rfl⟩
  obtain ⟨o, ho⟩ : ∃ o, (parse t.data.toList).isSome = o := ⟨_, rfl⟩
  have hfl : n ≤ 1099511627776 := by
    cases hp : parse t.data.toList with
    | none => rw [hp] at hf; simp only [Option.getD_none] at hf; subst hf; rw [← hn]; exact Nat.zero_le _
    | some gs =>
      rw [hp] at hf; simp only [Option.getD_some] at hf; subst hf
      have := parse_few hp
      omega
  have hfx : (lastF 2 fs).s.length ≤ 1099511627776 := by
    refine lastF_small fun f hm => ?_
    cases hp : parse t.data.toList with
    | none => rw [hp] at hf; simp only [Option.getD_none] at hf; subst hf; cases hm
    | some gs =>
      rw [hp] at hf; simp only [Option.getD_some] at hf; subst hf
      have h1 := (parse_facts _ (Nat.le_refl _) hp f hm).2
      have h2 : t.data.toList.length = t.size := rfl
      omega
  have hGV := getV_is _ fs o hf ho
  obtain ⟨K1, hK1⟩ : ∃ K, lastK 1 0 fs = K := ⟨_, rfl⟩
  obtain ⟨K2, hK2⟩ : ∃ K, lastK 2 2 fs = K := ⟨_, rfl⟩
  obtain ⟨K3, hK3⟩ : ∃ K, lastK 3 0 fs = K := ⟨_, rfl⟩
  obtain ⟨K4, hK4⟩ : ∃ K, lastK 4 0 fs = K := ⟨_, rfl⟩
  obtain ⟨K5, hK5⟩ : ∃ K, lastK 5 2 fs = K := ⟨_, rfl⟩
  rw [hK1, hK2, hK3, hK4, hK5] at hGV
  have HG := Lib.hid hGV
  have HK := Lib.hid (And.intro hK1 (And.intro hK2 (And.intro hK3 (And.intro hK4 hK5))))
  have HF := Lib.hid (And.intro hn (And.intro hfl hfx))
  obtain ⟨v0, hv0, hb0, p0, z0⟩ := alloc_sized w #[.int .i64 0, .string ⟨#[]⟩, .int .u64 0, .bool false, .string ⟨#[]⟩] RST
  have HP := Lib.hid (refParse_l t v0 hs (by omega) fs n o hn hf ho)
  have HV0 := Lib.hid hv0
  clear hGV hK1 hK2 hK3 hK4 hK5 hf hn ho hfl hfx hv0 z0 h0 hs
  go_enter Tryd.func10, Tryd.ntmps10
  go_wp2_with (rw [HV0.out])
  refine HP.out.mono ?_
  rintro e v1 ⟨⟨a0, g, cap, rfl, hga, hrow⟩, hb1⟩
  have P0 := p0.later hb1
  have LOW := hb0.trans (hb1.mono hb0.size)
  have HA := Lib.hid hga
  clear p0 hb0 hb1 hga
  dsimp only
  go_wp2_with fail
  refine (rlast_any a0 n cap g fs 1 0 _ HF.out.1 HA.out hrow HF.out.2.1).mono ?_
  rintro e w1 ⟨⟨f1, rfl, hF1⟩, hb1⟩
  rw [HK.out.1] at hF1 ⊢
  replace P0 := P0.later hb1
  replace hrow := hrow.below hb1
  replace LOW := LOW.trans (hb1.mono LOW.size)
  clear hb1
  obtain ⟨u1, hw1, hc1, Q1⟩ := alloc_new w1 f1.cs FT
  replace P0 := P0.later hc1
  replace hrow := hrow.below hc1
  replace LOW := LOW.trans (hc1.mono LOW.size)
  clear hc1
  have HW1 := Lib.hid hw1
  clear hw1
  dsimp only
  go_wp2_with (rw [HW1.out])
  refine (rlast_any a0 n cap g fs 2 2 _ HF.out.1 HA.out hrow HF.out.2.1).mono ?_
  rintro e w2 ⟨⟨f2, rfl, hF2⟩, hb2⟩
  rw [HK.out.2.1] at hF2 ⊢
  replace P0 := P0.later hb2
  replace Q1 := Q1.later hb2
  replace hrow := hrow.below hb2
  replace LOW := LOW.trans (hb2.mono LOW.size)
  clear hb2
  obtain ⟨u2, hw2, hc2, Q2⟩ := alloc_new w2 f2.cs FT
  replace P0 := P0.later hc2
  replace Q1 := Q1.later hc2
  replace hrow := hrow.below hc2
  replace LOW := LOW.trans (hc2.mono LOW.size)
  clear hc2
  have HW2 := Lib.hid hw2
  clear hw2
  dsimp only
  go_wp2_with (rw [HW2.out])
  refine (rlast_any a0 n cap g fs 3 0 _ HF.out.1 HA.out hrow HF.out.2.1).mono ?_
  rintro e w3 ⟨⟨f3, rfl, hF3⟩, hb3⟩
  rw [HK.out.2.2.1] at hF3 ⊢
  replace P0 := P0.later hb3
  replace Q1 := Q1.later hb3
  replace Q2 := Q2.later hb3
  replace hrow := hrow.below hb3
  replace LOW := LOW.trans (hb3.mono LOW.size)
  clear hb3
  obtain ⟨u3, hw3, hc3, Q3⟩ := alloc_new w3 f3.cs FT
  replace P0 := P0.later hc3
  replace Q1 := Q1.later hc3
  replace Q2 := Q2.later hc3
  replace hrow := hrow.below hc3
  replace LOW := LOW.trans (hc3.mono LOW.size)
  clear hc3
  have HW3 := Lib.hid hw3
  clear hw3
  dsimp only
  go_wp2_with (rw [HW3.out])
  refine (rlast_any a0 n cap g fs 4 0 _ HF.out.1 HA.out hrow HF.out.2.1).mono ?_
  rintro e w4 ⟨⟨f4, rfl, hF4⟩, hb4⟩
  rw [HK.out.2.2.2.1] at hF4 ⊢
  replace P0 := P0.later hb4
  replace Q1 := Q1.later hb4
  replace Q2 := Q2.later hb4
  replace Q3 := Q3.later hb4
  replace hrow := hrow.below hb4
  replace LOW := LOW.trans (hb4.mono LOW.size)
  clear hb4
  obtain ⟨u4, hw4, hc4, Q4⟩ := alloc_new w4 f4.cs FT
  replace P0 := P0.later hc4
  replace Q1 := Q1.later hc4
  replace Q2 := Q2.later hc4
  replace Q3 := Q3.later hc4
  replace hrow := hrow.below hc4
  replace LOW := LOW.trans (hc4.mono LOW.size)
  clear hc4
  have HW4 := Lib.hid hw4
  clear hw4
  dsimp only
  go_wp2_with (rw [HW4.out])
  refine (rlast_any a0 n cap g fs 5 2 _ HF.out.1 HA.out hrow HF.out.2.1).mono ?_
  rintro e w5 ⟨⟨f5, rfl, hF5⟩, hb5⟩
  rw [HK.out.2.2.2.2] at hF5 ⊢
  replace P0 := P0.later hb5
  replace Q1 := Q1.later hb5
  replace Q2 := Q2.later hb5
  replace Q3 := Q3.later hb5
  replace Q4 := Q4.later hb5
  replace hrow := hrow.below hb5
  replace LOW := LOW.trans (hb5.mono LOW.size)
  clear hb5
  obtain ⟨u5, hw5, hc5, Q5⟩ := alloc_new w5 f5.cs FT
  replace P0 := P0.later hc5
  replace Q1 := Q1.later hc5
  replace Q2 := Q2.later hc5
  replace Q3 := Q3.later hc5
  replace Q4 := Q4.later hc5
  replace hrow := hrow.below hc5
  replace LOW := LOW.trans (hc5.mono LOW.size)
  clear hc5
  have HW5 := Lib.hid hw5
  clear hw5
  dsimp only
  have HQ := Lib.hid (And.intro Q1 (And.intro Q2 (And.intro Q3 (And.intro Q4 Q5))))
  have HL := Lib.hid LOW
  have HP0 := Lib.hid P0
  have c1 : u5.cell? ⟨w1.heap.size, 2, none⟩ = some (.int .u64 (f1.n : Int)) := Q1.cell 2
  have c2 : u5.cell? ⟨w2.heap.size, 3, none⟩ = some (.string ⟨f2.s.toArray⟩) := Q2.cell 3
  have c3 : u5.cell? ⟨w3.heap.size, 2, none⟩ = some (.int .u64 (f3.n : Int)) := Q3.cell 2
  have c4 : u5.cell? ⟨w4.heap.size, 2, none⟩ = some (.int .u64 (f4.n : Int)) := Q4.cell 2
  have c5 : u5.cell? ⟨w5.heap.size, 3, none⟩ = some (.string ⟨f5.s.toArray⟩) := Q5.cell 3
  clear Q1 Q2 Q3 Q4 Q5 LOW P0 hrow
  cases o with
  | false =>
    go_wp2_with (first | rw [HW5.out] | (refine wpList_store_rst _ _ w.heap.size rfl rfl (by rfl) (by rfl) (HP0.out) rfl (by rfl) (by simp [Value.oneCell']) ?_; intro w9 p9 j9; simp only [Act.put]; go_wp2_with fail; have hl := run_load_rst p9 rfl; refine bodyPost_ret (v := .tuple #[zR, .bool false]) (by simp [results, hl, asAddr]) rfl ⟨?_, (HL.out).trans (j9.below (Nat.le_refl _))⟩; rw [show getV t.data.toList = none from (by rw [HG.out]; simp)]; rfl))
  | true =>
    cases K1 with
    | false =>
      go_wp2_with (first | rw [HW5.out] | (refine wpList_store_rst _ _ w.heap.size rfl rfl (by rfl) (by rfl) (HP0.out) rfl (by rfl) (by simp [Value.oneCell']) ?_; intro w9 p9 j9; simp only [Act.put]; go_wp2_with fail; have hl := run_load_rst p9 rfl; refine bodyPost_ret (v := .tuple #[zR, .bool false]) (by simp [results, hl, asAddr]) rfl ⟨?_, (HL.out).trans (j9.below (Nat.le_refl _))⟩; rw [show getV t.data.toList = none from (by rw [HG.out]; simp)]; rfl))
    | true =>
      cases K2 with
      | false =>
        go_wp2_with (first | rw [HW5.out] | (refine wpList_store_rst _ _ w.heap.size rfl rfl (by rfl) (by rfl) (HP0.out) rfl (by rfl) (by simp [Value.oneCell']) ?_; intro w9 p9 j9; simp only [Act.put]; go_wp2_with fail; have hl := run_load_rst p9 rfl; refine bodyPost_ret (v := .tuple #[zR, .bool false]) (by simp [results, hl, asAddr]) rfl ⟨?_, (HL.out).trans (j9.below (Nat.le_refl _))⟩; rw [show getV t.data.toList = none from (by rw [HG.out]; simp)]; rfl))
      | true =>
        cases K3 with
        | false =>
          go_wp2_with (first | rw [HW5.out] | (refine wpList_store_rst _ _ w.heap.size rfl rfl (by rfl) (by rfl) (HP0.out) rfl (by rfl) (by simp [Value.oneCell']) ?_; intro w9 p9 j9; simp only [Act.put]; go_wp2_with fail; have hl := run_load_rst p9 rfl; refine bodyPost_ret (v := .tuple #[zR, .bool false]) (by simp [results, hl, asAddr]) rfl ⟨?_, (HL.out).trans (j9.below (Nat.le_refl _))⟩; rw [show getV t.data.toList = none from (by rw [HG.out]; simp)]; rfl))
        | true =>
          cases K4 with
          | false =>
            go_wp2_with (first | rw [HW5.out] | (refine wpList_store_rst _ _ w.heap.size rfl rfl (by rfl) (by rfl) (HP0.out) rfl (by rfl) (by simp [Value.oneCell']) ?_; intro w9 p9 j9; simp only [Act.put]; go_wp2_with fail; have hl := run_load_rst p9 rfl; refine bodyPost_ret (v := .tuple #[zR, .bool false]) (by simp [results, hl, asAddr]) rfl ⟨?_, (HL.out).trans (j9.below (Nat.le_refl _))⟩; rw [show getV t.data.toList = none from (by rw [HG.out]; simp)]; rfl))
          | true =>
            cases K5 with
            | false =>
              go_wp2_with (first | rw [HW5.out] | (refine wpList_store_rst _ _ w.heap.size rfl rfl (by rfl) (by rfl) (HP0.out) rfl (by rfl) (by simp [Value.oneCell']) ?_; intro w9 p9 j9; simp only [Act.put]; go_wp2_with fail; have hl := run_load_rst p9 rfl; refine bodyPost_ret (v := .tuple #[zR, .bool false]) (by simp [results, hl, asAddr]) rfl ⟨?_, (HL.out).trans (j9.below (Nat.le_refl _))⟩; rw [show getV t.data.toList = none from (by rw [HG.out]; simp)]; rfl))
            | true =>
              have hmv : madeV fs = ⟨(f1.n : Int), ⟨f2.s.toArray⟩, f3.n, decide (f4.n = 1), ⟨f5.s.toArray⟩⟩ := by
                rw [hF1 rfl, hF2 rfl, hF3 rfl, hF4 rfl, hF5 rfl]; rfl
              have hmo : madeOk fs = (!(decide (5 < f1.n)) && !(decide (1 < f4.n))) := by
                rw [hF1 rfl, hF4 rfl]; rfl
              have hx : f2.s.length ≤ 1099511627776 := by rw [hF2 rfl]; exact HF.out.2.2
              rw [hmv, hmo] at HG
              have HX := Lib.hid hx
              clear hmv hmo hF1 hF2 hF3 hF4 hF5 hx
              by_cases hg1 : 1 < f4.n
              · have b4 : (1 : Int) < (f4.n : Int) := by omega
                go_wp2_with (first | rw [HW5.out] | (refine wpList_store_rst _ _ w.heap.size rfl rfl (by rfl) (by rfl) (HP0.out) rfl (by rfl) (by simp [Value.oneCell']) ?_; intro w9 p9 j9; simp only [Act.put]; go_wp2_with fail; have hl := run_load_rst p9 rfl; refine bodyPost_ret (v := .tuple #[zR, .bool false]) (by simp [results, hl, asAddr]) rfl ⟨?_, (HL.out).trans (j9.below (Nat.le_refl _))⟩; rw [show getV t.data.toList = none from (by rw [HG.out]; simp [hg1])]; rfl))
              · have b4 : ¬ (1 : Int) < (f4.n : Int) := by omega
                by_cases hk5 : 5 < f1.n
                · have b1 : (5 : Int) < (f1.n : Int) := by omega
                  go_wp2_with (first | rw [HW5.out] | (refine wpList_store_rst _ _ w.heap.size rfl rfl (by rfl) (by rfl) (HP0.out) rfl (by rfl) (by simp [Value.oneCell']) ?_; intro w9 p9 j9; simp only [Act.put]; go_wp2_with fail; have hl := run_load_rst p9 rfl; refine bodyPost_ret (v := .tuple #[zR, .bool false]) (by simp [results, hl, asAddr]) rfl ⟨?_, (HL.out).trans (j9.below (Nat.le_refl _))⟩; rw [show getV t.data.toList = none from (by rw [HG.out]; simp [hk5])]; rfl))
                · have b1 : ¬ (5 : Int) < (f1.n : Int) := by omega
                  obtain ⟨G, hGe⟩ : ∃ G, decide (f4.n = 1) = G := ⟨_, rfl⟩
                  have hGq : ((f4.n : Int) == 1) = G := by rw [← hGe, Bool.eq_iff_iff]; simp; omega
                  have hwt : IntKind.i64.wrap (f1.n : Int) = (f1.n : Int) := by rw [IntKind.wrap_i64]; omega
                  rw [hGe] at HG
                  obtain ⟨z1, hz1, hd1, R1⟩ := alloc_new u5 #[.int .i64 (f1.n : Int), .string ⟨f2.s.toArray⟩, .int .u64 (f3.n : Int), .bool G, .string ⟨f5.s.toArray⟩] RST
                  have HZ1 := Lib.hid hz1
                  clear hz1 hGe
                  go_wp2_with (first | rw [HW5.out] | rw [HZ1.out] | (refine wpList_load_rst _ u5.heap.size rfl rfl (by rfl) R1 rfl ?_; simp only [Act.put, List.setIfInBounds_toArray, List.set_cons_zero, List.set_cons_succ]))
                  refine (rright_any (f1.n : Int) ⟨f2.s.toArray⟩ (f3.n : Int) G ⟨f5.s.toArray⟩ _ (show (List.toArray f2.s).size ≤ maxLen from by have := HX.out; simp; unfold maxLen; omega)).mono ?_
                  rintro e w7 ⟨rfl, hb7⟩
                  have R2 := R1.later hb7
                  have P2 := (HP0.out.later hd1).later hb7
                  have L2 := (HL.out.trans (hd1.mono HL.out.size)).trans (hb7.mono (HL.out.trans (hd1.mono HL.out.size)).size)
                  obtain ⟨B, hB⟩ : ∃ B, rsOk (f1.n : Int) ⟨f2.s.toArray⟩ (f3.n : Int) G ⟨f5.s.toArray⟩ = B := ⟨_, rfl⟩
                  have hB2 : (Vr.mk (f1.n : Int) ⟨f2.s.toArray⟩ f3.n G ⟨f5.s.toArray⟩).ok = B := hB
                  rw [hB]
                  have HB := Lib.hid hB2
                  clear hB hB2 R1 hd1 hb7 c1 c2 c3 c4 c5
                  dsimp only
                  cases B with
                  | false =>
                    go_wp2_with (first | fail | (refine wpList_store_rst _ _ w.heap.size rfl rfl (by rfl) (by rfl) (P2) rfl (by rfl) (by simp [Value.oneCell']) ?_; intro w9 p9 j9; simp only [Act.put]; go_wp2_with fail; have hl := run_load_rst p9 rfl; refine bodyPost_ret (v := .tuple #[zR, .bool false]) (by simp [results, hl, asAddr]) rfl ⟨?_, (L2).trans (j9.below (Nat.le_refl _))⟩; rw [show getV t.data.toList = none from (by rw [HG.out]; simp [HB.out])]; rfl))
                  | true =>
                    go_wp2_with (first | (refine wpList_load_rst _ u5.heap.size rfl rfl (by rfl) R2 rfl ?_; simp only [Act.put, List.setIfInBounds_toArray, List.set_cons_zero, List.set_cons_succ]) | (refine wpList_store_rst _ _ w.heap.size rfl rfl (by rfl) (by rfl) P2 rfl (by rfl) (by simp [Value.oneCell']) ?_; intro w9 p9 j9; simp only [Act.put]; go_wp2_with fail; have hl := run_load_rst p9 rfl; refine bodyPost_ret (v := .tuple #[.agg #[.int .i64 (f1.n : Int), .string ⟨f2.s.toArray⟩, .int .u64 (f3.n : Int), .bool G, .string ⟨f5.s.toArray⟩], .bool true]) (by simp [results, hl, asAddr]) rfl ⟨?_, L2.trans (j9.below (Nat.le_refl _))⟩; rw [show getV t.data.toList = some ⟨(f1.n : Int), ⟨f2.s.toArray⟩, f3.n, G, ⟨f5.s.toArray⟩⟩ from (by rw [HG.out]; simp [hg1, hk5, HB.out])]; rfl))
end Go.Proofs.YtnioghheklbecaaDoor
namespace Go.Proofs.YtnioghheklbecaaDoor
open Go.RowKit

theorem xor_byte (a b : Int) : ∃ z : UInt8, bits BinOp.xor IntKind.u8 a b = (z.toNat : Int) := by
  have h : 0 ≤ bits BinOp.xor IntKind.u8 a b ∧ bits BinOp.xor IntKind.u8 a b < 256 := by
    unfold bits
    constructor <;> simp [IntKind.wrap, IntKind.signed, IntKind.bits] <;> omega
  refine ⟨UInt8.ofNat (bits BinOp.xor IntKind.u8 a b).toNat, ?_⟩
  simp; omega

theorem rowM_convert {P : Program} {w : World} {base g cap n : Nat} {e src dst : TypeId} {l : List UInt8} (hs : P.underlying src = some (.slice e)) (he : P.underlying e = some (.int .u8)) (hd : P.underlying dst = some .string)
    (h : RowM w base e g cap (l.map fun x => Value.int .u8 (x.toNat : Int))) (hn : l.length = n) :
    (convert src dst (.slice (some ⟨g, 0, none⟩) n cap)).run P w = .ok (.string ⟨l.toArray⟩) w := by
  subst hn
  refine run_convert_bytes_back w src dst e ⟨g, 0, none⟩ cap l hs he hd fun j hj => ?_
  have e : (⟨g, 0, none⟩ : Addr).add j = ⟨g, j, none⟩ := by unfold Addr.add; split <;> simp_all
  rw [e]; exact h.cell (by simp [hj])

set_option maxRecDepth 100000 in
set_option maxHeartbeats 1000000 in
theorem bend_pos (s : ByteArray) (p : Int) (y : Nat) (w : World) (hs : s.size ≤ 1099511627776) (h0 : 0 < s.size) (hp : 0 ≤ p) (hp2 : p ≤ 9223372036854775807) :
    Calls Tryd.prog 8 #[.string s, .int .i64 p, .int .u8 y] w fun e w' => (∃ S : ByteArray, e = .returned (.string S) ∧ S.size = s.size) ∧ Below w.heap.size w w' := by
  have hem : s.toList.isEmpty = false := by
    rw [ByteArray.toList_eq]
    have hl : s.data.toList.length = s.size := by simp
    cases he : s.data.toList with
    | nil => rw [he] at hl; simp at hl; omega
    | cons x l => rfl
  obtain ⟨J, hJ⟩ : ∃ J : Nat, p % (s.size : Int) = (J : Int) := ⟨(p % (s.size : Int)).toNat, by have := Int.emod_nonneg p (show (s.size : Int) ≠ 0 by omega); omega⟩
  have HJ0 := Lib.hid hJ
  have hJs : J < s.size := by have := Int.emod_lt_of_pos p (show (0 : Int) < (s.size : Int) by omega); omega
  have kc := run_bytes_of_string (P := Tryd.prog) w 9 45 5 s Tryd.underlying9 Tryd.underlying45 Tryd.underlying5
  have hr := rowM_of_string w w.heap.size 5 s (Nat.le_refl _) (by unfold maxLen; omega)
  have hb := (below_drewN (Below.refl w.heap.size w) 1).alloc (Nat.le_refl _) (.cells (bytesRow s (grownCap w s.size 0 5)) 5 ((bytesRow s (grownCap w s.size 0 5)).size, (bytesRow s (grownCap w s.size 0 5)).size + 1))
  obtain ⟨cap, hcap⟩ : ∃ cap, grownCap w s.size 0 5 = cap := ⟨_, rfl⟩
  rw [hcap] at kc hr hb
  obtain ⟨W1, hW1⟩ : ∃ W1, w.drew.alloc (.cells (bytesRow s cap) 5 ((bytesRow s cap).size, (bytesRow s cap).size + 1)) = W1 := ⟨_, rfl⟩
  have hb' : Below w.heap.size w W1 := by rw [← hW1]; exact hb
  rw [hW1] at kc hr
  have HW1 := Lib.hid hW1
  clear hb hcap hW1
  have hlen : s.data.toList.length = s.size := by simp
  obtain ⟨x, hx⟩ : ∃ x, s.data.toList[J]? = some x := ⟨_, List.getElem?_eq_getElem (by omega)⟩
  have hcJ := hr.cell (j := J) (u := .int .u8 (x.toNat : Int)) (by rw [List.getElem?_map, hx]; rfl)
  have hfJ := hr.free (j := J) (by simp; omega)
  have HR := Lib.hid hr; clear hr
  have HB := Lib.hid hb'; clear hb'
  have HLEN := Lib.hid hlen; clear hlen hx
  have hj1 : (J : Int) < (s.size : Int) := by omega
  have hsn : (s.size : Int) ≠ 0 := by omega
  obtain ⟨z, hz⟩ := xor_byte (x.toNat : Int) (y : Int)
  go_enter Tryd.func8, Tryd.ntmps8
  go_wp2_with fail
  have hJt : p.tmod (s.size : Int) = (J : Int) := by rw [Int.tmod_eq_emod_of_nonneg hp]; exact HJ0.out
  have hz0 : ((s.size : Int) == 0) = false := beq_eq_false_iff_ne.2 hsn
  have hj0 : (0 : Int) ≤ (J : Int) := Int.natCast_nonneg J
  have hr2 := HR.out.set J (.int .u8 (z.toNat : Int))
  have hset : (s.data.toList.map fun x => Value.int .u8 (x.toNat : Int)).set J (.int .u8 (z.toNat : Int)) = (s.data.toList.set J z).map fun x => Value.int .u8 (x.toNat : Int) := by rw [List.map_set]
  rw [hset] at hr2
  have hl2 : (s.data.toList.set J z).length = s.size := by rw [List.length_set]; exact HLEN.out
  have hcv := rowM_convert (P := Tryd.prog) (w := (W1.setCell ⟨w.heap.size, J, none⟩ (.int .u8 (z.toNat : Int))).drew) (dst := 9) Tryd.underlying45 Tryd.underlying5 Tryd.underlying9 hr2 hl2
  have HL2 := Lib.hid hl2
  clear hset hr2 hl2
  go_region
  go_wp2_with fail
  go_ret
  exact ⟨⟨_, rfl, (show (List.toArray _).size = _ from (List.size_toArray ..).trans HL2.out)⟩, below_drewN (HB.out.setCell (p := ⟨w.heap.size, J, none⟩) (Nat.le_refl _) _) 1⟩
set_option maxRecDepth 100000 in
set_option maxHeartbeats 1000000 in
theorem bend_neg (s : ByteArray) (p : Int) (y : Nat) (w : World) (hs : s.size ≤ 1099511627776) (h0 : 0 < s.size) (q : Int) (hq : -(p + 1) = q) (hp : p < 0) (hp2 : -9223372036854775808 ≤ p) :
    Calls Tryd.prog 8 #[.string s, .int .i64 p, .int .u8 y] w fun e w' => (∃ S : ByteArray, e = .returned (.string S) ∧ S.size = s.size) ∧ Below w.heap.size w w' := by
  have hem : s.toList.isEmpty = false := by
    rw [ByteArray.toList_eq]
    have hl : s.data.toList.length = s.size := by simp
    cases he : s.data.toList with
    | nil => rw [he] at hl; simp at hl; omega
    | cons x l => rfl
  have hq0 : 0 ≤ q := by omega
  obtain ⟨J, hJ⟩ : ∃ J : Nat, q % (s.size : Int) = (J : Int) := ⟨(q % (s.size : Int)).toNat, by have := Int.emod_nonneg q (show (s.size : Int) ≠ 0 by omega); omega⟩
  have HJ0 := Lib.hid hJ
  have hJs : J < s.size := by have := Int.emod_lt_of_pos q (show (0 : Int) < (s.size : Int) by omega); omega
  have kc := run_bytes_of_string (P := Tryd.prog) w 9 45 5 s Tryd.underlying9 Tryd.underlying45 Tryd.underlying5
  have hr := rowM_of_string w w.heap.size 5 s (Nat.le_refl _) (by unfold maxLen; omega)
  have hb := (below_drewN (Below.refl w.heap.size w) 1).alloc (Nat.le_refl _) (.cells (bytesRow s (grownCap w s.size 0 5)) 5 ((bytesRow s (grownCap w s.size 0 5)).size, (bytesRow s (grownCap w s.size 0 5)).size + 1))
  obtain ⟨cap, hcap⟩ : ∃ cap, grownCap w s.size 0 5 = cap := ⟨_, rfl⟩
  rw [hcap] at kc hr hb
  obtain ⟨W1, hW1⟩ : ∃ W1, w.drew.alloc (.cells (bytesRow s cap) 5 ((bytesRow s cap).size, (bytesRow s cap).size + 1)) = W1 := ⟨_, rfl⟩
  have hb' : Below w.heap.size w W1 := by rw [← hW1]; exact hb
  rw [hW1] at kc hr
  have HW1 := Lib.hid hW1
  clear hb hcap hW1
  have hlen : s.data.toList.length = s.size := by simp
  obtain ⟨x, hx⟩ : ∃ x, s.data.toList[J]? = some x := ⟨_, List.getElem?_eq_getElem (by omega)⟩
  have hcJ := hr.cell (j := J) (u := .int .u8 (x.toNat : Int)) (by rw [List.getElem?_map, hx]; rfl)
  have hfJ := hr.free (j := J) (by simp; omega)
  have HR := Lib.hid hr; clear hr
  have HB := Lib.hid hb'; clear hb'
  have HLEN := Lib.hid hlen; clear hlen hx
  have hj1 : (J : Int) < (s.size : Int) := by omega
  have hsn : (s.size : Int) ≠ 0 := by omega
  obtain ⟨z, hz⟩ := xor_byte (x.toNat : Int) (y : Int)
  go_enter Tryd.func8, Tryd.ntmps8
  go_wp2_with fail
  have hJt : q.tmod (s.size : Int) = (J : Int) := by rw [Int.tmod_eq_emod_of_nonneg hq0]; exact HJ0.out
  have hz0 : ((s.size : Int) == 0) = false := beq_eq_false_iff_ne.2 hsn
  have hj0 : (0 : Int) ≤ (J : Int) := Int.natCast_nonneg J
  have hr2 := HR.out.set J (.int .u8 (z.toNat : Int))
  have hset : (s.data.toList.map fun x => Value.int .u8 (x.toNat : Int)).set J (.int .u8 (z.toNat : Int)) = (s.data.toList.set J z).map fun x => Value.int .u8 (x.toNat : Int) := by rw [List.map_set]
  rw [hset] at hr2
  have hl2 : (s.data.toList.set J z).length = s.size := by rw [List.length_set]; exact HLEN.out
  have hcv := rowM_convert (P := Tryd.prog) (w := (W1.setCell ⟨w.heap.size, J, none⟩ (.int .u8 (z.toNat : Int))).drew) (dst := 9) Tryd.underlying45 Tryd.underlying5 Tryd.underlying9 hr2 hl2
  have HL2 := Lib.hid hl2
  clear hset hr2 hl2
  go_region
  go_wp2_with fail
  go_ret
  exact ⟨⟨_, rfl, (show (List.toArray _).size = _ from (List.size_toArray ..).trans HL2.out)⟩, below_drewN (HB.out.setCell (p := ⟨w.heap.size, J, none⟩) (Nat.le_refl _) _) 1⟩

theorem bend_any (s : ByteArray) (p : Int) (y : Nat) (w : World) (hs : s.size ≤ 1099511627776) (hp1 : -9223372036854775808 ≤ p) (hp2 : p ≤ 9223372036854775807) :
    Calls Tryd.prog 8 #[.string s, .int .i64 p, .int .u8 y] w fun e w' => (∃ S : ByteArray, e = .returned (.string S) ∧ S.size = s.size) ∧ Below w.heap.size w w' := by
  by_cases h0 : s.size = 0
  · have hem : s.toList.isEmpty = true := by
      rw [ByteArray.toList_eq]
      have hl : s.data.toList.length = s.size := by simp
      cases he : s.data.toList with
      | nil => rfl
      | cons x l => rw [he] at hl; simp at hl; omega
    clear h0
    go_enter Tryd.func8, Tryd.ntmps8
    go_wp2_with fail
    go_ret
    exact ⟨⟨_, rfl, rfl⟩, Below.refl _ _⟩
  · by_cases hp : 0 ≤ p
    · exact bend_pos s p y w hs (by omega) hp hp2
    · exact bend_neg s p y w hs (by omega) _ rfl (by omega) hp1
end Go.Proofs.YtnioghheklbecaaDoor
namespace Go.Proofs.YtnioghheklbecaaDoor

open Go.RowKit Go.ChangeShapes Go.WideShapes

set_option maxRecDepth 100000 in
theorem open_thing_x {H : Type} {enc : TypeId × Value → H} {W : World} {base : Nat} {v : Value} {d : DataW H} {ps : List MemPlace}
    (hv : Value.okWide Tryd.prog W .any base 28 v) (h : DataW.Trod enc Tryd.prog W 0 (fun _ => true) true 28 v d ps) :
    ∃ (t : Int) (x : ByteArray) (q : Nat) (g : Bool) (s : ByteArray) (own : Bool) (n : Nat), v = .agg #[.int .i64 t, .string x, .int .u64 (q : Int), .bool g, .string s, .bool own, .int .u8 (n : Int)] ∧ n < 256 ∧ q < 2 ^ 64 ∧ s.size ≤ maxLen ∧ x.size ≤ maxLen := by
  have c30 : Tryd.prog.cellsOf 28 = 7 := by kernel_rfl
  have c28 : Tryd.prog.cellsOf 26 = 5 := by kernel_rfl
  have c26 : Tryd.prog.cellsOf 23 = 2 := by kernel_rfl
  have ci : Tryd.prog.cellsOf 3 = 1 := by kernel_rfl
  have cu : Tryd.prog.cellsOf 24 = 1 := by kernel_rfl
  have c8 : Tryd.prog.cellsOf 5 = 1 := by kernel_rfl
  have cb : Tryd.prog.cellsOf 4 = 1 := by kernel_rfl
  have cS : Tryd.prog.cellsOf 9 = 1 := by kernel_rfl
  obtain ⟨cs, rfl, hsz⟩ := okWide_struct Tryd.underlying28 hv
  obtain ⟨v0, v1, v2, v3, v4, v5, v6, rfl⟩ := arr7 (hsz.trans c30)
  obtain ⟨fuel, hf⟩ := h
  obtain ⟨zs, nz, _, hz, _, hzl, hks⟩ := DataW.trod_struct Tryd.underlying28 hf
  match zs, hzl with
  | [z0, z1, z2], _ =>
  have k0 := hks 0 _ rfl
  have k1 := hks 1 _ rfl
  have k2 := hks 2 _ rfl
  simp only [Value.cells, List.getElem?_cons_zero, List.getElem?_cons_succ] at k0 k1 k2
  obtain ⟨m1, a1, rfl⟩ := DataW.trod_bool Tryd.underlying4 k1
  obtain ⟨m2, a2, rfl, hm2⟩ := DataW.trod_int Tryd.underlying5 k2
  obtain ⟨xs, nx, _, hx, _, hxl, hfs⟩ := DataW.trod_struct Tryd.underlying26 k0
  match xs, hxl with
  | [x0, x1, x2, x3], _ =>
  have f0 := hfs 0 _ rfl
  have f1 := hfs 1 _ rfl
  have f2 := hfs 2 _ rfl
  have f3 := hfs 3 _ rfl
  simp only [List.getElem?_cons_zero, List.getElem?_cons_succ] at f0 f1 f2 f3
  obtain ⟨p1, e1, rfl, hp1⟩ := DataW.trod_int Tryd.underlying24 f1
  obtain ⟨p2, e2, rfl⟩ := DataW.trod_bool Tryd.underlying4 f2
  obtain ⟨p3, e3, rfl, hp3⟩ := DataW.trod_string Tryd.underlying9 f3
  obtain ⟨ys, m, _, hy, _, hyl, hgs⟩ := DataW.trod_struct Tryd.underlying23 f0
  match ys, hyl with
  | [y0, y1], _ =>
  have g0 := hgs 0 _ rfl
  have g1 := hgs 1 _ rfl
  simp only [List.getElem?_cons_zero, List.getElem?_cons_succ] at g0 g1
  obtain ⟨j0, d0, rfl, hj0⟩ := DataW.trod_int Tryd.underlying3 g0
  obtain ⟨j1, d1, rfl, hj1⟩ := DataW.trod_string Tryd.underlying9 g1
  obtain rfl := List.singleton_inj.1 d0
  obtain rfl := List.singleton_inj.1 d1
  obtain rfl := List.singleton_inj.1 e1
  obtain rfl := List.singleton_inj.1 e2
  obtain rfl := List.singleton_inj.1 e3
  obtain rfl := List.singleton_inj.1 a1
  obtain rfl := List.singleton_inj.1 a2
  have b1 := bounds_u64 hp1
  obtain ⟨n1, rfl⟩ := Int.eq_ofNat_of_zero_le b1.1
  have b2 := bounds_u8 hm2
  obtain ⟨n2, rfl⟩ := Int.eq_ofNat_of_zero_le b2.1
  exact ⟨j0, j1, n1, p2, p3, m1, n2, rfl, by omega, by omega, hp3, hj1⟩
end Go.Proofs.YtnioghheklbecaaDoor
namespace Go.Proofs.YtnioghheklbecaaDoor
open Go.RowKit Go.Lib

set_option maxRecDepth 100000 in
set_option maxHeartbeats 2000000 in
theorem eq_key (t : Int) (x : ByteArray) (w : World) : (Op.equalIn 9999 23 (.agg #[.int .i64 t, .string x]) (.agg #[.int .i64 t, .string x])).run Tryd.prog w = .ok true w := by
  have u3 := Tryd.underlying3
  have a3 := Tryd.isAgg3
  have z3 := Tryd.sizeOf3
  have u9 := Tryd.underlying9
  have a9 := Tryd.isAgg9
  have z9 := Tryd.sizeOf9
  have hS : Tryd.prog.underlying 23 = some (.struct (Tryd.prog.fieldsOf 23)) := by kernel_rfl
  have hp : Tryd.prog.stoodInHeld 23 = false := by kernel_rfl
  rw [show (9999 : Nat) = 9998 + 1 from rfl, run_equalIn_agg w 9998 23 _ _ hS hp]
  simp only [Program.fieldsOf, Tryd.underlying23]
  go_simp
  try simp
set_option maxRecDepth 100000 in
set_option maxHeartbeats 2000000 in
theorem eq_rz (t : Int) (x s : ByteArray) (q : Int) (g : Bool) (w : World) : (Op.equalIn 10000 26 (.agg #[.int .i64 t, .string x, .int .u64 q, .bool g, .string s]) (.agg #[.int .i64 t, .string x, .int .u64 q, .bool g, .string s])).run Tryd.prog w = .ok true w := by
  have u3 := Tryd.underlying4
  have a3 := Tryd.isAgg4
  have z3 := Tryd.sizeOf4
  have u22 := Tryd.underlying24
  have a22 := Tryd.isAgg24
  have z22 := Tryd.sizeOf24
  have u9 := Tryd.underlying9
  have a9 := Tryd.isAgg9
  have z9 := Tryd.sizeOf9
  have a40 := Tryd.isAgg23
  have z40 := Tryd.sizeOf23
  have hk := eq_key t x
  have hS : Tryd.prog.underlying 26 = some (.struct (Tryd.prog.fieldsOf 26)) := by kernel_rfl
  have hp : Tryd.prog.stoodInHeld 26 = false := by kernel_rfl
  rw [show (10000 : Nat) = 9999 + 1 from rfl, run_equalIn_agg w 9999 26 _ _ hS hp]
  simp only [Program.fieldsOf, Tryd.underlying26]
  go_simp
  try simp
theorem eql_rz (t : Int) (x s : ByteArray) (q : Int) (g : Bool) (w : World) : (binOp .eql 26 (.agg #[.int .i64 t, .string x, .int .u64 q, .bool g, .string s]) (.agg #[.int .i64 t, .string x, .int .u64 q, .bool g, .string s])).run Tryd.prog w = .ok (.bool true) w := by
  rw [run_eql_struct, eq_rz]
  rfl
theorem guard_rz (op : BinOp) (x y : Operand) (xs ys : Array Value) (w : World) : (eqGuard op 26 x y (.agg xs) (.agg ys)).run Tryd.prog w = .ok () w :=
  run_eqGuard_agg w op _ x y xs ys (by kernel_rfl)
theorem put_all (r : Vr) : (if r.ok then r.put else []).length ≤ 2000 := by
  cases h : r.ok with
  | false => exact Nat.zero_le _
  | true =>
    have hf := Vr.fits_of_ok h
    have hx := hf.x
    have hs := hf.s
    have a := numberL_small 1 r.t.toNat
    have b := textL_small 2 r.x
    have c := numberL_small 3 r.q
    have d := numberL_small 4 1
    have e := textL_small 5 r.s
    show r.put.length ≤ 2000
    unfold Vr.put
    simp only [List.length_append]
    split <;> split <;> (try simp only [List.length_nil]) <;> omega
theorem vput_all (r : Vr) (b : Addr) (w : World) (hg : Gv b w) :
    Calls Tryd.prog 5 #[r.v] w fun e w' => e = .returned (.tuple #[.string ⟨(if r.ok then r.put else []).toArray⟩, .bool r.ok]) ∧ Below w.heap.size w w' := by
  cases h : r.ok with
  | false => exact vput_no r w h
  | true => exact vput_ok r b w hg (Vr.fits_of_ok h) h
theorem rput_all (r : Vr) (w : World) (hx : r.x.size ≤ maxLen) :
    Calls Tryd.prog 7 #[r.v] w fun e w' => e = .returned (.tuple #[.string ⟨(if r.ok then r.put else []).toArray⟩, .bool r.ok]) ∧ Below w.heap.size w w' := by
  cases h : r.ok with
  | false => exact rput_no r w hx h
  | true => exact rput_ok r w h
theorem get_form (o : Option Vr) : ∃ t x q g s, getVal o = .agg #[.int .i64 t, .string x, .int .u64 q, .bool g, .string s] := by
  cases o with
  | none => exact ⟨_, _, _, _, _, rfl⟩
  | some r => exact ⟨_, _, _, _, _, rfl⟩
set_option maxRecDepth 100000 in
set_option maxHeartbeats 8000000 in
theorem codes_walk (t : Int) (x : ByteArray) (q : Nat) (g : Bool) (s : ByteArray) (o1 : Bool) (n : Nat) (z : ByteArray) (own : Bool) (p : Int) (y : Nat) (b : Addr) (w : World) (hg : Gv b w) (hx : x.size ≤ maxLen) (hs : s.size ≤ maxLen) (hz : z.size ≤ 1099511627776) (hp1 : -9223372036854775808 ≤ p) (hp2 : p ≤ 9223372036854775807) :
    Calls Tryd.prog 3 #[.agg #[.int .i64 t, .string x, .int .u64 (q : Int), .bool g, .string s, .bool o1, .int .u8 (n : Int)], .string z, .bool own, .int .i64 p, .int .u8 (y : Int)] w fun e w' => e = .returned (.bool true) ∧ Below w.heap.size w w' := by
  obtain ⟨r, hr⟩ : ∃ r, tgV ⟨t, x, q, g, s, o1, n⟩ = r := ⟨_, rfl⟩
  have hrx : r.x.size ≤ maxLen := by
    rw [← hr]; unfold tgV
    cases o1 with
    | false => exact hx
    | true =>
      have := (wd_ok (n % 6) (Nat.mod_lt _ (by decide))).2.2
      show (wd (n % 6)).size ≤ maxLen
      unfold maxLen; omega
  have hth := fun w => thing_tg ⟨t, x, q, g, s, o1, n⟩ w (by unfold maxLen at hs; exact hs)
  rw [hr] at hth
  have hvp := fun w hg => vput_all r b w hg
  have hrp := fun w => rput_all r w hrx
  obtain ⟨PA, hPA⟩ : ∃ PA : ByteArray, (⟨(if r.ok then r.put else []).toArray⟩ : ByteArray) = PA := ⟨_, rfl⟩
  obtain ⟨O, hO⟩ : ∃ O, r.ok = O := ⟨_, rfl⟩
  have hPs : PA.size ≤ 2000 := by
    rw [← hPA]; have := put_all r; show (List.toArray _).size ≤ 2000; simpa using this
  rw [hPA, hO] at hvp hrp
  have HC := Lib.hid (And.intro hth (And.intro hvp hrp))
  have HPs := Lib.hid hPs
  obtain ⟨v0, hv0, hb0, p0, z0⟩ := alloc_sized w #[.int .i64 t, .string x, .int .u64 (q : Int), .bool g, .string s, .bool o1, .int .u8 (n : Int)] 28
  have HV0 := Lib.hid hv0
  clear hth hvp hrp hPA hO hPs hr hrx hv0 z0 hx hs
  go_enter Tryd.func3, Tryd.ntmps3
  go_wp2_with (rw [HV0.out])
  refine (rs_examples b v0 (hg.below hb0)).mono ?_
  rintro e w1 ⟨rfl, hb1⟩
  have LB := hb0.trans (hb1.mono hb0.size)
  have q1 := p0.below hb1 p0.lt
  clear hb0 hb1 p0
  have k0 : w1.cell? ⟨w.heap.size, 0, none⟩ = some (.int .i64 t) := q1.cell 0
  have k1 : w1.cell? ⟨w.heap.size, 1, none⟩ = some (.string x) := q1.cell 1
  have k2 : w1.cell? ⟨w.heap.size, 2, none⟩ = some (.int .u64 (q : Int)) := q1.cell 2
  have k3 : w1.cell? ⟨w.heap.size, 3, none⟩ = some (.bool g) := q1.cell 3
  have k4 : w1.cell? ⟨w.heap.size, 4, none⟩ = some (.string s) := q1.cell 4
  have k5 : w1.cell? ⟨w.heap.size, 5, none⟩ = some (.bool o1) := q1.cell 5
  have k6 : w1.cell? ⟨w.heap.size, 6, none⟩ = some (.int .u8 (n : Int)) := q1.cell 6
  dsimp only
  go_wp2_with fail
  refine (HC.out.1 _).mono ?_
  rintro e w2 ⟨rfl, hb2⟩
  replace LB := LB.trans (hb2.mono LB.size)
  replace q1 := q1.below hb2 q1.lt
  clear hb2
  dsimp only
  go_wp2_with fail
  refine (HC.out.2.1 _ (hg.below LB)).mono ?_
  rintro e w3 ⟨rfl, hb3⟩
  replace LB := LB.trans (hb3.mono LB.size)
  replace q1 := q1.below hb3 q1.lt
  clear hb3 k0 k1 k2 k3 k4 k5 k6
  have k0 : w3.cell? ⟨w.heap.size, 0, none⟩ = some (.int .i64 t) := q1.cell 0
  have k1 : w3.cell? ⟨w.heap.size, 1, none⟩ = some (.string x) := q1.cell 1
  have k2 : w3.cell? ⟨w.heap.size, 2, none⟩ = some (.int .u64 (q : Int)) := q1.cell 2
  have k3 : w3.cell? ⟨w.heap.size, 3, none⟩ = some (.bool g) := q1.cell 3
  have k4 : w3.cell? ⟨w.heap.size, 4, none⟩ = some (.string s) := q1.cell 4
  have k5 : w3.cell? ⟨w.heap.size, 5, none⟩ = some (.bool o1) := q1.cell 5
  have k6 : w3.cell? ⟨w.heap.size, 6, none⟩ = some (.int .u8 (n : Int)) := q1.cell 6
  dsimp only
  go_wp2_with fail
  refine (HC.out.1 _).mono ?_
  rintro e w4 ⟨rfl, hb4⟩
  replace LB := LB.trans (hb4.mono LB.size)
  clear hb4 k0 k1 k2 k3 k4 k5 k6 q1
  dsimp only
  go_wp2_with fail
  refine (HC.out.2.2 _).mono ?_
  rintro e w4 ⟨rfl, hb4⟩
  replace LB := LB.trans (hb4.mono LB.size)
  clear hb4
  dsimp only
  cases own with
  | false =>
    go_wp2_with fail
    have hT : z.size ≤ 1099511627776 := hz
    obtain ⟨t', x', q', g', s', hGV⟩ := get_form (getV z.data.toList)
    have hz' : z.size ≤ 1099511627776 := hT
    refine (vget_any z b _ hT (hg.below LB)).mono ?_
    rw [hGV]
    rintro e w5 ⟨rfl, hb5⟩
    replace LB := LB.trans (hb5.mono LB.size)
    clear hb5
    dsimp only
    obtain ⟨u5, hu5, hc5, R5⟩ := alloc_new w5 #[.int .i64 t', .string x', .int .u64 q', .bool g', .string s'] RST
    replace LB := LB.trans (hc5.mono LB.size)
    have HU5 := Lib.hid hu5
    clear hc5 hu5
    go_wp2_with (rw [HU5.out])
    refine (rget_any z _ hT (Nat.lt_of_lt_of_le (Nat.lt_of_le_of_lt (Nat.zero_le _) hg.2) LB.size)).mono ?_
    rw [hGV]
    rintro e w6 ⟨rfl, hb6⟩
    replace LB := LB.trans (hb6.mono LB.size)
    have R6 := R5.later hb6
    clear hb6 R5
    dsimp only
    obtain ⟨u6, hu6, hc6, R7⟩ := alloc_new w6 #[.int .i64 t', .string x', .int .u64 q', .bool g', .string s'] RST
    have R8 := R6.later hc6
    replace LB := LB.trans (hc6.mono LB.size)
    have HU6 := Lib.hid hu6
    have HLB := Lib.hid LB
    clear hc6 hu6 R6 LB
    have q0 := R7.cell 0
    have q1 := R7.cell 1
    have q2 := R7.cell 2
    have q3 := R7.cell 3
    have q4 := R7.cell 4
    have r0 := R8.cell 0
    have r1 := R8.cell 1
    have r2 := R8.cell 2
    have r3 := R8.cell 3
    have r4 := R8.cell 4
    simp only [List.getElem?_toArray, List.getElem?_cons_zero, List.getElem?_cons_succ] at q0 q1 q2 q3 q4 r0 r1 r2 r3 r4
    have hgd := guard_rz
    have heq := eql_rz t' x' s' q' g'
    clear R7 R8
    go_wp2_with (rw [HU6.out])
    go_ret
    exact ⟨rfl, HLB.out⟩
  | true =>
    go_wp2_with fail
    refine (bend_any PA p y _ (by have := HPs.out; omega) hp1 hp2).mono ?_
    rintro e w4 ⟨⟨T, rfl, hTs⟩, hb4⟩
    replace LB := LB.trans (hb4.mono LB.size)
    clear hb4
    have hT : T.size ≤ 1099511627776 := by rw [hTs]; have := HPs.out; omega
    clear hTs
    obtain ⟨t', x', q', g', s', hGV⟩ := get_form (getV T.data.toList)
    dsimp only
    go_wp2_with fail
    have hz' : T.size ≤ 1099511627776 := hT
    refine (vget_any T b _ hT (hg.below LB)).mono ?_
    rw [hGV]
    rintro e w5 ⟨rfl, hb5⟩
    replace LB := LB.trans (hb5.mono LB.size)
    clear hb5
    dsimp only
    obtain ⟨u5, hu5, hc5, R5⟩ := alloc_new w5 #[.int .i64 t', .string x', .int .u64 q', .bool g', .string s'] RST
    replace LB := LB.trans (hc5.mono LB.size)
    have HU5 := Lib.hid hu5
    clear hc5 hu5
    go_wp2_with (rw [HU5.out])
    refine (rget_any T _ hT (Nat.lt_of_lt_of_le (Nat.lt_of_le_of_lt (Nat.zero_le _) hg.2) LB.size)).mono ?_
    rw [hGV]
    rintro e w6 ⟨rfl, hb6⟩
    replace LB := LB.trans (hb6.mono LB.size)
    have R6 := R5.later hb6
    clear hb6 R5
    dsimp only
    obtain ⟨u6, hu6, hc6, R7⟩ := alloc_new w6 #[.int .i64 t', .string x', .int .u64 q', .bool g', .string s'] RST
    have R8 := R6.later hc6
    replace LB := LB.trans (hc6.mono LB.size)
    have HU6 := Lib.hid hu6
    have HLB := Lib.hid LB
    clear hc6 hu6 R6 LB
    have q0 := R7.cell 0
    have q1 := R7.cell 1
    have q2 := R7.cell 2
    have q3 := R7.cell 3
    have q4 := R7.cell 4
    have r0 := R8.cell 0
    have r1 := R8.cell 1
    have r2 := R8.cell 2
    have r3 := R8.cell 3
    have r4 := R8.cell 4
    simp only [List.getElem?_toArray, List.getElem?_cons_zero, List.getElem?_cons_succ] at q0 q1 q2 q3 q4 r0 r1 r2 r3 r4
    have hgd := guard_rz
    have heq := eql_rz t' x' s' q' g'
    clear R7 R8
    go_wp2_with (rw [HU6.out])
    go_ret
    exact ⟨rfl, HLB.out⟩
end Go.Proofs.YtnioghheklbecaaDoor
