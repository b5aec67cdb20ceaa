/- payload: takeOne: a field is taken by the part of its number: the walks. -/
import Derived.Test.YtngceccpebdgmaaGreatDoorPlTake
import Derived.BigQuiet
namespace Go.Proofs.YtngceccpebdgmaaGreatDoor
open Go.RowKit Go.Shelf

/-- Below base all but block B is as it was. -/
structure BelowBut (base B : Nat) (w w' : World) : Prop where
  os : w'.os = w.os
  tape : w'.tape = w.tape
  output : w'.output = w.output
  size : w.heap.size ≤ w'.heap.size
  block : ∀ k, k < base → k ≠ B → w'.heap[k]? = w.heap[k]?
theorem BelowBut.refl (base B : Nat) (w : World) : BelowBut base B w w := ⟨rfl, rfl, rfl, Nat.le_refl _, fun _ _ _ => rfl⟩
theorem BelowBut.trans {base B : Nat} {a b c : World} (h : BelowBut base B a b) (k : BelowBut base B b c) : BelowBut base B a c :=
  ⟨k.os.trans h.os, k.tape.trans h.tape, k.output.trans h.output, Nat.le_trans h.size k.size, fun i hi hne => (k.block i hi hne).trans (h.block i hi hne)⟩
theorem BelowBut.of {base B n : Nat} {w w' : World} (h : Below n w w') (hn : base ≤ n) : BelowBut base B w w' := ⟨h.os, h.tape, h.output, h.size, fun k hk _ => h.block k (by omega)⟩
theorem BelowBut.below {base B n : Nat} {w w' : World} (h : BelowBut base B w w') (h1 : n ≤ B) (h2 : n ≤ base) : Below n w w' := ⟨h.os, h.tape, h.output, h.size, fun k hk => h.block k (by omega) (by omega)⟩
theorem BelowBut.grown {base B : Nat} {w w' : World} (h : w.grownBy w' (some B)) (hb : base ≤ w.heap.size) : BelowBut base B w w' := ⟨h.os, h.tape, h.output, h.size, fun k hk hne => h.block k (by omega) (fun e => hne (by simpa using e))⟩
theorem BelowBut.parts {base B g : Nat} {w w' : World} {xs : List PartV} (h : BelowBut base B w w') (hp : PartsAt w g xs) (hg : g < base) (hne : g ≠ B) : PartsAt w' g xs := by
  have hb := h.block g hg hne
  refine ⟨Nat.lt_of_lt_of_le hp.1 h.size, fun i x hx => ?_⟩
  obtain ⟨a, b, c, d⟩ := hp.2 i x hx
  exact ⟨(World.cell?_of_block (a := ⟨g, _, none⟩) hb).trans a, (World.cell?_of_block (a := ⟨g, _, none⟩) hb).trans b, (World.cell?_of_block (a := ⟨g, _, none⟩) hb).trans c, (World.cell?_of_block (a := ⟨g, _, none⟩) hb).trans d⟩

/-- What a take comes to. -/
def TakePost {σ : Type} (base B : Nat) (R : World → σ → Prop) (r : Option σ) (W : World) (e : Ending) (w' : World) : Prop :=
  BelowBut base B W w' ∧ match r with
    | none => e = .returned (.bool false)
    | some s' => e = .returned (.bool true) ∧ R w' s'
/-- The part's second function takes a field of the part's kind into the value in block B. -/
def TakesAs {σ : Type} (H base B : Nat) (R : World → σ → Prop) (w0 : World) (x : PartV) (step : σ → Fd → Option σ) : Prop :=
  Enters Tryz.prog x.tg ∧ ∀ (W : World) (s : σ) (f : Fd), Below H w0 W → base ≤ W.heap.size → R W s → f.kind = x.kind → f.n < 2 ^ 64 → f.s.length ≤ 1099511627776 →
    Calls Tryz.prog x.tg (#[.pointer (some ⟨B, 0, none⟩), .agg #[.int .i64 (f.num : Int), .int .i64 (f.kind : Int), .int .u64 (f.n : Int), .string ⟨f.s.toArray⟩]] ++ x.tlb) W (TakePost base B R (step s f) W)
theorem TakePost.later {σ : Type} {base B : Nat} {R : World → σ → Prop} {r : Option σ} {W0 W : World} {e : Ending} {w' : World} (h : TakePost base B R r W e w') (hb : BelowBut base B W0 W) : TakePost base B R r W0 e w' := ⟨hb.trans h.1, h.2⟩
theorem TakePost.bool {σ : Type} {base B : Nat} {R : World → σ → Prop} {r : Option σ} {W : World} {e : Ending} {w' : World} (h : TakePost base B R r W e w') : ∃ y : Bool, e = .returned (.bool y) := by
  obtain ⟨_, h⟩ := h
  cases r with
  | none => exact ⟨_, h⟩
  | some s => exact ⟨_, h.1⟩
/-- What the loop holds: none of the parts ahead is of the field's number. -/
def OneRel {σ : Type} (kind : Nat → Nat) (step : Nat → σ → Fd → Option σ) (is : List Nat) (s : σ) (f : Fd) (j : Nat) : Prop := oneOf kind step (is.drop j) s f = oneOf kind step is s f
theorem OneRel.next {σ : Type} {kind : Nat → Nat} {step : Nat → σ → Fd → Option σ} {is : List Nat} {s : σ} {f : Fd} {j i : Nat} (h : OneRel kind step is s f j) (hi : is[j]? = some i) (hn : i + 1 ≠ f.num) : OneRel kind step is s f (j + 1) := by
  obtain ⟨hj, rfl⟩ := List.getElem?_eq_some_iff.1 hi
  unfold OneRel at *
  rw [← h, List.drop_eq_getElem_cons hj]
  simp [oneOf, hn]
theorem OneRel.hit {σ : Type} {kind : Nat → Nat} {step : Nat → σ → Fd → Option σ} {is : List Nat} {s : σ} {f : Fd} {j i : Nat} (h : OneRel kind step is s f j) (hi : is[j]? = some i) (hn : i + 1 = f.num) : oneOf kind step is s f = if kind i = f.kind then step i s f else none := by
  obtain ⟨hj, rfl⟩ := List.getElem?_eq_some_iff.1 hi
  unfold OneRel at h
  rw [← h, List.drop_eq_getElem_cons hj]
  simp [oneOf, hn]
theorem OneRel.done {σ : Type} {kind : Nat → Nat} {step : Nat → σ → Fd → Option σ} {is : List Nat} {s : σ} {f : Fd} {j : Nat} (h : OneRel kind step is s f j) (hj : is.length ≤ j) : oneOf kind step is s f = some s := by
  unfold OneRel at h
  rw [← h, List.drop_of_length_le hj]; rfl
theorem below_f (w : World) (o : Obj) : Below w.heap.size w (w.alloc o) := (Below.refl _ _).alloc (Nat.le_refl _) o
def Keeps {σ : Type} (R : World → σ → Prop) : Prop := ∀ W W' s, R W s → Below W.heap.size W W' → R W' s
/-- The parts xs, of the numbers is, take as step says. -/
def TakeParts {σ : Type} (H base B : Nat) (R : World → σ → Prop) (w0 : World) (kind : Nat → Nat) (step : Nat → σ → Fd → Option σ) (is : List Nat) (xs : List PartV) : Prop :=
  is.length = xs.length ∧ ∀ (j i : Nat) (x : PartV), is[j]? = some i → xs[j]? = some x → x.num = i + 1 ∧ x.kind = kind i ∧ TakesAs H base B R w0 x (step i)

set_option maxRecDepth 100000 in
set_option maxHeartbeats 2000000 in
theorem takeOneRule_any {σ : Type} (R : World → σ → Prop) (H base B g cap n : Nat) (kind : Nat → Nat) (step : Nat → σ → Fd → Option σ) (is : List Nat) (xs : List PartV) (s : σ) (f : Fd) (w0 w : World)
    (hR : Keeps R) (hp : PartsAt w g xs) (hn : xs.length = n) (hn64 : n ≤ 64) (hx : TakeParts H base B R w0 kind step is xs)
    (h0 : Below H w0 w) (hH : H ≤ w.heap.size) (hB : base ≤ w.heap.size) (hs : R w s) (hf : f.n < 2 ^ 64) (hfs : f.s.length ≤ 1099511627776) :
    Calls Tryz.prog 142 #[.slice (some ⟨g, 0, none⟩) n cap, .pointer (some ⟨B, 0, none⟩), .agg #[.int .i64 (f.num : Int), .int .i64 (f.kind : Int), .int .u64 (f.n : Int), .string ⟨f.s.toArray⟩]] w (TakePost base B R (oneOf kind step is s f) w) := by
  have HR := Lib.hid hR; clear hR
  have HP := Lib.hid hp; clear hp
  have HN := Lib.hid hn; clear hn
  have HX := Lib.hid hx; clear hx
  have H0 := Lib.hid h0; clear h0
  have HS := Lib.hid hs; clear hs
  have HF := Lib.hid hf; clear hf
  have HFS := Lib.hid hfs; clear hfs
  go_enter Tryz.func142, Tryz.ntmps142
  go_wp2_with fail
  go_loopw [11] (fun i wr => ∃ j : Nat, j ≤ n ∧ i = .int .i64 j ∧ OneRel kind step is s f j ∧ Below (w.heap.size + 1) (w.alloc (.cells #[.int .i64 (f.num : Int), .int .i64 (f.kind : Int), .int .u64 (f.n : Int), .string ⟨f.s.toArray⟩] 178)) wr ∧ w.heap.size < wr.heap.size) (fun i _ => n - (intOf i).toNat)
  case atStart => exact ⟨0, Nat.zero_le _, rfl, rfl, Below.refl _ _, by simp⟩
  case round =>
    obtain ⟨j, hj, rfl, hone, hb, hsz⟩ := hrel
    have hb0 : Below w.heap.size w wr := (below_f w _).trans (hb.mono (by omega))
    by_cases hlt : j < n
    · obtain ⟨x, hxj⟩ : ∃ x, xs[j]? = some x := ⟨_, List.getElem?_eq_getElem (by have := HN.out; omega)⟩
      obtain ⟨i, hij⟩ : ∃ i, is[j]? = some i := ⟨_, List.getElem?_eq_getElem (by have := HN.out; have := HX.out.1; omega)⟩
      obtain ⟨c0, c1, c2, c3⟩ := (HP.out.below hb0 HP.out.1).2 j x hxj
      obtain ⟨hnum, hkd, hent0, htk⟩ := HX.out.2 j i x hij hxj
      have HI := Lib.hid hij
      have HONE := Lib.hid hone
      have HB := Lib.hid hb
      have HB0 := Lib.hid hb0
      have f0 := (hb.cell (p := ⟨w.heap.size, 0, none⟩) (by simp)).trans ((new_cell w _ _ 0).trans rfl)
      have f1 := (hb.cell (p := ⟨w.heap.size, 1, none⟩) (by simp)).trans ((new_cell w _ _ 1).trans rfl)
      have f2 := (hb.cell (p := ⟨w.heap.size, 2, none⟩) (by simp)).trans ((new_cell w _ _ 2).trans rfl)
      have f3 := (hb.cell (p := ⟨w.heap.size, 3, none⟩) (by simp)).trans ((new_cell w _ _ 3).trans rfl)
      have hent : ∀ (args : Array Value) (w : World), (callFunc x.tg args).run Tryz.prog w = .ok (.enter x.tg args) w := hent0
      have HT := Lib.hid htk
      have HNU := Lib.hid hnum
      have HKD := Lib.hid hkd
      clear hone hb hb0 hxj hij hent0 htk hnum hkd
      have b0 : (0 : Int) ≤ (j : Int) := by omega
      have b1 : (j : Int) < (n : Int) := by omega
      by_cases he : i + 1 = f.num
      · have hq : ((x.num : Int) == (f.num : Int)) = true := by have := HNU.out; simp; omega
        have HH := Lib.hid (HONE.out.hit HI.out he)
        clear he
        by_cases hk : x.kind = f.kind
        · have hkq : ((x.kind : Int) == (f.kind : Int)) = true := by simp; omega
          have HK := Lib.hid hk
          clear hk
          go_wp2_with fail
          refine (HT.out _ s f (H0.out.trans ((HB0.out.trans ((Below.refl _ _).alloc HB0.out.size _)).mono hH)) (by have := HB0.out.size; rw [World.size_alloc]; omega) (HR.out _ _ _ (HR.out _ _ _ HS.out HB0.out) (below_f wr _)) HK.out.symm HF.out HFS.out).mono ?_
          intro e w5 hpost
          obtain ⟨y, rfl⟩ := hpost.bool
          have HPO := Lib.hid (hpost.later (BelowBut.of (HB0.out.trans ((Below.refl _ _).alloc HB0.out.size _)) hB))
          clear hpost
          cases y with
          | true =>
            go_wp2_with fail
            go_ret
            rw [HH.out, if_pos (by have := HK.out; have := HKD.out; omega)]
            exact HPO.out
          | false =>
            go_wp2_with fail
            go_ret
            rw [HH.out, if_pos (by have := HK.out; have := HKD.out; omega)]
            exact HPO.out
        · have hkq : ((x.kind : Int) == (f.kind : Int)) = false := by simp; omega
          have HK := Lib.hid hk
          clear hk
          go_wp2_with fail
          go_ret
          rw [HH.out, if_neg (by have := HK.out; have := HKD.out; omega)]
          exact ⟨BelowBut.of (HB0.out.trans ((Below.refl _ _).alloc HB0.out.size _)) hB, rfl⟩
      · have hq : ((x.num : Int) == (f.num : Int)) = false := by have := HNU.out; simp; omega
        have HH := Lib.hid (HONE.out.next HI.out he)
        clear he
        go_wp2_with fail
        go_roundw
        case rel => exact ⟨j + 1, by omega, by go_num, HH.out, HB.out.alloc (by omega) _, by rw [World.size_alloc]; omega⟩
        case measure => simp [intOf]; omega
    · have HD := Lib.hid (hone.done (by have := HX.out.1; have := HN.out; omega))
      have HB0 := Lib.hid hb0
      clear hone hb hb0
      go_wp2_with fail
      go_ret
      rw [HD.out]
      exact ⟨BelowBut.of HB0.out hB, rfl, HR.out _ _ _ HS.out HB0.out⟩

set_option maxRecDepth 100000 in
set_option maxHeartbeats 2000000 in
theorem takeOneAddr_any {σ : Type} (R : World → σ → Prop) (H base B g cap n : Nat) (kind : Nat → Nat) (step : Nat → σ → Fd → Option σ) (is : List Nat) (xs : List PartV) (s : σ) (f : Fd) (w0 w : World)
    (hR : Keeps R) (hp : PartsAt w g xs) (hn : xs.length = n) (hn64 : n ≤ 64) (hx : TakeParts H base B R w0 kind step is xs)
    (h0 : Below H w0 w) (hH : H ≤ w.heap.size) (hB : base ≤ w.heap.size) (hs : R w s) (hf : f.n < 2 ^ 64) (hfs : f.s.length ≤ 1099511627776) :
    Calls Tryz.prog 145 #[.slice (some ⟨g, 0, none⟩) n cap, .pointer (some ⟨B, 0, none⟩), .agg #[.int .i64 (f.num : Int), .int .i64 (f.kind : Int), .int .u64 (f.n : Int), .string ⟨f.s.toArray⟩]] w (TakePost base B R (oneOf kind step is s f) w) := by
  have HR := Lib.hid hR; clear hR
  have HP := Lib.hid hp; clear hp
  have HN := Lib.hid hn; clear hn
  have HX := Lib.hid hx; clear hx
  have H0 := Lib.hid h0; clear h0
  have HS := Lib.hid hs; clear hs
  have HF := Lib.hid hf; clear hf
  have HFS := Lib.hid hfs; clear hfs
  go_enter Tryz.func145, Tryz.ntmps145
  go_wp2_with fail
  go_loopw [11] (fun i wr => ∃ j : Nat, j ≤ n ∧ i = .int .i64 j ∧ OneRel kind step is s f j ∧ Below (w.heap.size + 1) (w.alloc (.cells #[.int .i64 (f.num : Int), .int .i64 (f.kind : Int), .int .u64 (f.n : Int), .string ⟨f.s.toArray⟩] 178)) wr ∧ w.heap.size < wr.heap.size) (fun i _ => n - (intOf i).toNat)
  case atStart => exact ⟨0, Nat.zero_le _, rfl, rfl, Below.refl _ _, by simp⟩
  case round =>
    obtain ⟨j, hj, rfl, hone, hb, hsz⟩ := hrel
    have hb0 : Below w.heap.size w wr := (below_f w _).trans (hb.mono (by omega))
    by_cases hlt : j < n
    · obtain ⟨x, hxj⟩ : ∃ x, xs[j]? = some x := ⟨_, List.getElem?_eq_getElem (by have := HN.out; omega)⟩
      obtain ⟨i, hij⟩ : ∃ i, is[j]? = some i := ⟨_, List.getElem?_eq_getElem (by have := HN.out; have := HX.out.1; omega)⟩
      obtain ⟨c0, c1, c2, c3⟩ := (HP.out.below hb0 HP.out.1).2 j x hxj
      obtain ⟨hnum, hkd, hent0, htk⟩ := HX.out.2 j i x hij hxj
      have HI := Lib.hid hij
      have HONE := Lib.hid hone
      have HB := Lib.hid hb
      have HB0 := Lib.hid hb0
      have f0 := (hb.cell (p := ⟨w.heap.size, 0, none⟩) (by simp)).trans ((new_cell w _ _ 0).trans rfl)
      have f1 := (hb.cell (p := ⟨w.heap.size, 1, none⟩) (by simp)).trans ((new_cell w _ _ 1).trans rfl)
      have f2 := (hb.cell (p := ⟨w.heap.size, 2, none⟩) (by simp)).trans ((new_cell w _ _ 2).trans rfl)
      have f3 := (hb.cell (p := ⟨w.heap.size, 3, none⟩) (by simp)).trans ((new_cell w _ _ 3).trans rfl)
      have hent : ∀ (args : Array Value) (w : World), (callFunc x.tg args).run Tryz.prog w = .ok (.enter x.tg args) w := hent0
      have HT := Lib.hid htk
      have HNU := Lib.hid hnum
      have HKD := Lib.hid hkd
      clear hone hb hb0 hxj hij hent0 htk hnum hkd
      have b0 : (0 : Int) ≤ (j : Int) := by omega
      have b1 : (j : Int) < (n : Int) := by omega
      by_cases he : i + 1 = f.num
      · have hq : ((x.num : Int) == (f.num : Int)) = true := by have := HNU.out; simp; omega
        have HH := Lib.hid (HONE.out.hit HI.out he)
        clear he
        by_cases hk : x.kind = f.kind
        · have hkq : ((x.kind : Int) == (f.kind : Int)) = true := by simp; omega
          have HK := Lib.hid hk
          clear hk
          go_wp2_with fail
          refine (HT.out _ s f (H0.out.trans ((HB0.out.trans ((Below.refl _ _).alloc HB0.out.size _)).mono hH)) (by have := HB0.out.size; rw [World.size_alloc]; omega) (HR.out _ _ _ (HR.out _ _ _ HS.out HB0.out) (below_f wr _)) HK.out.symm HF.out HFS.out).mono ?_
          intro e w5 hpost
          obtain ⟨y, rfl⟩ := hpost.bool
          have HPO := Lib.hid (hpost.later (BelowBut.of (HB0.out.trans ((Below.refl _ _).alloc HB0.out.size _)) hB))
          clear hpost
          cases y with
          | true =>
            go_wp2_with fail
            go_ret
            rw [HH.out, if_pos (by have := HK.out; have := HKD.out; omega)]
            exact HPO.out
          | false =>
            go_wp2_with fail
            go_ret
            rw [HH.out, if_pos (by have := HK.out; have := HKD.out; omega)]
            exact HPO.out
        · have hkq : ((x.kind : Int) == (f.kind : Int)) = false := by simp; omega
          have HK := Lib.hid hk
          clear hk
          go_wp2_with fail
          go_ret
          rw [HH.out, if_neg (by have := HK.out; have := HKD.out; omega)]
          exact ⟨BelowBut.of (HB0.out.trans ((Below.refl _ _).alloc HB0.out.size _)) hB, rfl⟩
      · have hq : ((x.num : Int) == (f.num : Int)) = false := by have := HNU.out; simp; omega
        have HH := Lib.hid (HONE.out.next HI.out he)
        clear he
        go_wp2_with fail
        go_roundw
        case rel => exact ⟨j + 1, by omega, by go_num, HH.out, HB.out.alloc (by omega) _, by rw [World.size_alloc]; omega⟩
        case measure => simp [intOf]; omega
    · have HD := Lib.hid (hone.done (by have := HX.out.1; have := HN.out; omega))
      have HB0 := Lib.hid hb0
      clear hone hb hb0
      go_wp2_with fail
      go_ret
      rw [HD.out]
      exact ⟨BelowBut.of HB0.out hB, rfl, HR.out _ _ _ HS.out HB0.out⟩

set_option maxRecDepth 100000 in
set_option maxHeartbeats 2000000 in
theorem takeOnePayload_any {σ : Type} (R : World → σ → Prop) (H base B g cap n : Nat) (kind : Nat → Nat) (step : Nat → σ → Fd → Option σ) (is : List Nat) (xs : List PartV) (s : σ) (f : Fd) (w0 w : World)
    (hR : Keeps R) (hp : PartsAt w g xs) (hn : xs.length = n) (hn64 : n ≤ 64) (hx : TakeParts H base B R w0 kind step is xs)
    (h0 : Below H w0 w) (hH : H ≤ w.heap.size) (hB : base ≤ w.heap.size) (hs : R w s) (hf : f.n < 2 ^ 64) (hfs : f.s.length ≤ 1099511627776) :
    Calls Tryz.prog 100 #[.slice (some ⟨g, 0, none⟩) n cap, .pointer (some ⟨B, 0, none⟩), .agg #[.int .i64 (f.num : Int), .int .i64 (f.kind : Int), .int .u64 (f.n : Int), .string ⟨f.s.toArray⟩]] w (TakePost base B R (oneOf kind step is s f) w) := by
  have HR := Lib.hid hR; clear hR
  have HP := Lib.hid hp; clear hp
  have HN := Lib.hid hn; clear hn
  have HX := Lib.hid hx; clear hx
  have H0 := Lib.hid h0; clear h0
  have HS := Lib.hid hs; clear hs
  have HF := Lib.hid hf; clear hf
  have HFS := Lib.hid hfs; clear hfs
  go_enter Tryz.func100, Tryz.ntmps100
  go_wp2_with fail
  go_loopw [11] (fun i wr => ∃ j : Nat, j ≤ n ∧ i = .int .i64 j ∧ OneRel kind step is s f j ∧ Below (w.heap.size + 1) (w.alloc (.cells #[.int .i64 (f.num : Int), .int .i64 (f.kind : Int), .int .u64 (f.n : Int), .string ⟨f.s.toArray⟩] 178)) wr ∧ w.heap.size < wr.heap.size) (fun i _ => n - (intOf i).toNat)
  case atStart => exact ⟨0, Nat.zero_le _, rfl, rfl, Below.refl _ _, by simp⟩
  case round =>
    obtain ⟨j, hj, rfl, hone, hb, hsz⟩ := hrel
    have hb0 : Below w.heap.size w wr := (below_f w _).trans (hb.mono (by omega))
    by_cases hlt : j < n
    · obtain ⟨x, hxj⟩ : ∃ x, xs[j]? = some x := ⟨_, List.getElem?_eq_getElem (by have := HN.out; omega)⟩
      obtain ⟨i, hij⟩ : ∃ i, is[j]? = some i := ⟨_, List.getElem?_eq_getElem (by have := HN.out; have := HX.out.1; omega)⟩
      obtain ⟨c0, c1, c2, c3⟩ := (HP.out.below hb0 HP.out.1).2 j x hxj
      obtain ⟨hnum, hkd, hent0, htk⟩ := HX.out.2 j i x hij hxj
      have HI := Lib.hid hij
      have HONE := Lib.hid hone
      have HB := Lib.hid hb
      have HB0 := Lib.hid hb0
      have f0 := (hb.cell (p := ⟨w.heap.size, 0, none⟩) (by simp)).trans ((new_cell w _ _ 0).trans rfl)
      have f1 := (hb.cell (p := ⟨w.heap.size, 1, none⟩) (by simp)).trans ((new_cell w _ _ 1).trans rfl)
      have f2 := (hb.cell (p := ⟨w.heap.size, 2, none⟩) (by simp)).trans ((new_cell w _ _ 2).trans rfl)
      have f3 := (hb.cell (p := ⟨w.heap.size, 3, none⟩) (by simp)).trans ((new_cell w _ _ 3).trans rfl)
      have hent : ∀ (args : Array Value) (w : World), (callFunc x.tg args).run Tryz.prog w = .ok (.enter x.tg args) w := hent0
      have HT := Lib.hid htk
      have HNU := Lib.hid hnum
      have HKD := Lib.hid hkd
      clear hone hb hb0 hxj hij hent0 htk hnum hkd
      have b0 : (0 : Int) ≤ (j : Int) := by omega
      have b1 : (j : Int) < (n : Int) := by omega
      by_cases he : i + 1 = f.num
      · have hq : ((x.num : Int) == (f.num : Int)) = true := by have := HNU.out; simp; omega
        have HH := Lib.hid (HONE.out.hit HI.out he)
        clear he
        by_cases hk : x.kind = f.kind
        · have hkq : ((x.kind : Int) == (f.kind : Int)) = true := by simp; omega
          have HK := Lib.hid hk
          clear hk
          go_wp2_with fail
          refine (HT.out _ s f (H0.out.trans ((HB0.out.trans ((Below.refl _ _).alloc HB0.out.size _)).mono hH)) (by have := HB0.out.size; rw [World.size_alloc]; omega) (HR.out _ _ _ (HR.out _ _ _ HS.out HB0.out) (below_f wr _)) HK.out.symm HF.out HFS.out).mono ?_
          intro e w5 hpost
          obtain ⟨y, rfl⟩ := hpost.bool
          have HPO := Lib.hid (hpost.later (BelowBut.of (HB0.out.trans ((Below.refl _ _).alloc HB0.out.size _)) hB))
          clear hpost
          cases y with
          | true =>
            go_wp2_with fail
            go_ret
            rw [HH.out, if_pos (by have := HK.out; have := HKD.out; omega)]
            exact HPO.out
          | false =>
            go_wp2_with fail
            go_ret
            rw [HH.out, if_pos (by have := HK.out; have := HKD.out; omega)]
            exact HPO.out
        · have hkq : ((x.kind : Int) == (f.kind : Int)) = false := by simp; omega
          have HK := Lib.hid hk
          clear hk
          go_wp2_with fail
          go_ret
          rw [HH.out, if_neg (by have := HK.out; have := HKD.out; omega)]
          exact ⟨BelowBut.of (HB0.out.trans ((Below.refl _ _).alloc HB0.out.size _)) hB, rfl⟩
      · have hq : ((x.num : Int) == (f.num : Int)) = false := by have := HNU.out; simp; omega
        have HH := Lib.hid (HONE.out.next HI.out he)
        clear he
        go_wp2_with fail
        go_roundw
        case rel => exact ⟨j + 1, by omega, by go_num, HH.out, HB.out.alloc (by omega) _, by rw [World.size_alloc]; omega⟩
        case measure => simp [intOf]; omega
    · have HD := Lib.hid (hone.done (by have := HX.out.1; have := HN.out; omega))
      have HB0 := Lib.hid hb0
      clear hone hb hb0
      go_wp2_with fail
      go_ret
      rw [HD.out]
      exact ⟨BelowBut.of HB0.out hB, rfl, HR.out _ _ _ HS.out HB0.out⟩
end Go.Proofs.YtngceccpebdgmaaGreatDoor
